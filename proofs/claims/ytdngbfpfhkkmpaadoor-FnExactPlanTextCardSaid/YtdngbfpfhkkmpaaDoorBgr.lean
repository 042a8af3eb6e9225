/-
  A new strings.Builder is given room. Conditions: it has not been written.
-/
import Derived.Test.YtdngbfpfhkkmpaaDoorBld
import Derived.Test.YtdngbfpfhkkmpaaDoorShg
namespace Go.Proofs.YtdngbfpfhkkmpaaDoor
open Go.RowKit Go.Deep Go.WideShapes Go.ChangeShapes
set_option linter.unusedVariables false
set_option linter.unusedSimpArgs false

theorem b_extraG : Builder.Extra Tryd.prog lays241_ren := {
  sizeBuilder := by kernel_rfl
  liesBuilder := by kernel_rfl
  t5 := Tryd.underlying5
  a5 := Tryd.isAgg5
  z5 := Tryd.sizeOf5
  v5 := Tryd.zeroValue5
  infoByte := by kernel_rfl
  cellsByte := by kernel_rfl
  sizeByte := by kernel_rfl
  neB5 := by decide }
set_option maxHeartbeats 2000000 in
set_option maxRecDepth 100000 in
theorem c_bGrow (b n : Nat) (w0 : World) (hn1 : 1 ≤ n) (hn : n ≤ 281474976710656) (hb : w0.heap.size = b) :
    Calls Tryd.prog 27 #[.pointer (some ⟨b, 0, none⟩), .int .i64 n] (w0.alloc (.cells #[.pointer none, .slice none 0 0] 70)) fun e w' => e = .returned (.tuple #[]) ∧ IsB w' b b [] ∧ Below b (w0.alloc (.cells #[.pointer none, .slice none 0 0] 70)) w' := by
  subst hb
  have hnew : Blk (w0.alloc (.cells #[.pointer none, .slice none 0 0] 70)) w0.heap.size 70 #[.pointer none, .slice none 0 0] := Blk.new w0 _ _
  obtain ⟨w, hw⟩ : ∃ w, w0.alloc (.cells #[.pointer none, .slice none 0 0] 70) = w := ⟨_, rfl⟩
  have hBw : w0.heap.size ≤ w.heap.size := by rw [← hw, World.size_alloc]; exact Nat.le_succ _
  have hI := isB_new w0
  rw [hw] at hnew hI ⊢
  obtain ⟨b, hb⟩ : ∃ b, w0.heap.size = b := ⟨_, rfl⟩
  rw [hb] at hnew hI hBw ⊢
  clear hw hb
  have HBW := Lib.hid hBw
  have hbk : w.heap[b]? = some (.cells #[.pointer none, .slice none 0 0] 70 (0, 0)) := hnew
  have hbk1 : (w.setCell ⟨b, 0, none⟩ (.pointer (some ⟨b, 0, none⟩))).heap[b]? = some (.cells #[.pointer (some ⟨b, 0, none⟩), .slice none 0 0] 70 (0, 0)) := by
    simp [World.setCell, Array.getElem?_modify, hbk]
  have c1 : (w.setCell ⟨b, 0, none⟩ (.pointer (some ⟨b, 0, none⟩))).cell? ⟨b, 1, none⟩ = some (.slice none 0 0) := by rw [Lib.cell_of_heap hbk1]; rfl
  have bl : Below b w (w.setCell ⟨b, 0, none⟩ (.pointer (some ⟨b, 0, none⟩))) := (Below.refl b w).setCell (p := ⟨b, 0, none⟩) (Nat.le_refl _) _
  have HF := Lib.hid (c_bFresh b w (by rw [Lib.cell_of_heap hbk]; rfl) (by simp [World.shape?, hbk]) (by simp [World.frozen?, hbk]))
  have BL := Lib.hid bl
  have HBK := Lib.hid hbk1
  have hni : (0 : Int) < (n : Int) := by omega
  obtain ⟨w1, hw1⟩ : ∃ w1, w.setCell ⟨b, 0, none⟩ (.pointer (some ⟨b, 0, none⟩)) = w1 := ⟨_, rfl⟩
  rw [hw1] at HF BL HBK c1
  have HG := Lib.hid (Any.Builder_grow_fresh lays241 b_extraG b b n w1.drew (Nat.le_refl _) HBK.out (Nat.le_trans HBW.out BL.out.size) hn)
  clear hw1 hbk hbk1 bl hnew hI hn hBw
  go_enter Tryd.func27, Tryd.ntmps27
  go_wp2_with fail
  refine HF.out.mono ?_
  rintro e w2 ⟨rfl, rfl⟩
  go_wp2_with fail
  go_region
  all_goals
    go_wp2_with fail
    refine HG.out.mono ?_
    rintro e w3 ⟨rfl, hi, hb⟩
    have HI := Lib.hid hi
    have HB3 := Lib.hid ((BL.out.trans (Below.refl b _).drew).trans hb)
    clear hi hb
    go_wp2_with fail
    go_end0
    exact ⟨rfl, .inr HI.out, HB3.out⟩
end Go.Proofs.YtdngbfpfhkkmpaaDoor
