/-
  The texts of a plan's steps, the program's: eachOf to texts. Conditions: as for one step.
-/
import Derived.Test.YtdngbfpfhkkmpaaDoorPtt
import Derived.Test.YtdngbfpfhkkmpaaDoorSrs
import Derived.Test.YtdngbfpfhkkmpaaDoorCta
namespace Go.Proofs.YtdngbfpfhkkmpaaDoor
open Go.RowKit Go.Deep Go.WideShapes Go.ChangeShapes
set_option linter.unusedVariables false
set_option linter.unusedSimpArgs false

def stepOk (p : PstP) : Prop := (0 ≤ p.kd ∧ p.kd ≤ 5) ∧ (-9223372036854775808 ≤ p.ii ∧ p.ii ≤ 9223372036854775807) ∧ (-9223372036854775808 ≤ p.oo ∧ p.oo ≤ 9223372036854775807)
def stepTs (ls : List PstA) : List (List UInt8) := ls.map fun x => stepT x.p
def EachSRel (ls : List PstA) (n : Nat) (B : Nat) (w : World) (i : Value) (wr : World) : Prop :=
  ∃ k : Nat, k ≤ n ∧ i = .int .i64 k ∧ wr.ownsRow B 9 1 (.slice (some ⟨B, 0, none⟩) n n) n (copyS ((stepTs ls).map strB) k n) ∧ Below B w wr
set_option maxRecDepth 20000 in
set_option maxHeartbeats 2000000 in
theorem c_eachST (g : Option Addr) (cap n : Nat) (ls : List PstA) (w : World) (h : PstsAt w g n cap ls) (hn : n ≤ 1048576) (hp : ∀ x ∈ ls, stepOk x.p) (ht : TabOk w) (hk : KnOk w) :
    Calls Tryd.prog 15 #[.slice g n cap, .func (.func 16) #[] #[]] w fun e w' => ∃ a c, e = .returned (.slice a n c) ∧ OwnS w' w.heap.size a c (stepTs ls) ∧ Below w.heap.size w w' := by
  have hnm : n ≤ maxLen := by have h1 := h.2.1; have h2 := h.2.2.1; omega
  obtain ⟨i0, hi, hz0, hz1, hz2⟩ := info_parts info_strC
  have HI := Lib.hid hi
  have HZ0 := Lib.hid hz0
  have HZ1 := Lib.hid hz1
  have HZ2 := Lib.hid hz2
  have H := Lib.hid h
  have HM := Lib.hid hnm
  have HP := Lib.hid hp
  have HT := Lib.hid ht
  have HK := Lib.hid hk
  have HSL := Lib.hid (show ((stepTs ls).map strB).length = n by unfold stepTs; rw [List.length_map, List.length_map]; exact h.1)
  have hE := enters_of Tryd.func16 (by kernel_rfl) (by kernel_rfl)
  clear h hi hz0 hz1 hz2 hnm hp ht hk
  go_enter Tryd.func15, Tryd.ntmps15
  go_wp2_with (at_make; refine wpList_make_full _ rfl _ _ 41 rfl w.heap.size 9 i0 (.string ByteArray.empty) 1 Tryd.underlying41 HI.out HZ0.out HZ1.out _ _ _ _ n rfl rfl rfl rfl ?c1 ?c2 ?c3 ?_)
  case c1 => rw [HZ2.out]; omega
  case c2 => exact HM.out
  case c3 => exact Nat.le_refl _
  intro w1 hown hgrow
  have hb1 : Below w.heap.size w w1 := (Below.refl _ _).grown hgrow (Nat.le_refl _) (fun k h => by cases h)
  rw [toList_madeCells_one] at hown
  have HO := Lib.hid hown
  have HB := Lib.hid hb1
  clear hown hb1 hgrow
  go_wp2_with fail
  go_loopw [13] (fun iv wr => EachSRel ls n w.heap.size w iv wr) (fun iv _ => n - (intOf iv).toNat)
  case atStart => exact ⟨0, Nat.zero_le _, rfl, by simpa [copyS] using HO.out, HB.out⟩
  case round =>
    obtain ⟨k, hk, rfl, ho, hb⟩ := hrel
    have HO' := Lib.hid ho
    have HB' := Lib.hid hb
    clear ho hb
    by_cases hlt : k < n
    · obtain ⟨b, off, kd, ii, oo, ws, bs, ss, rl, a0, c0, a1, c1, a2, c2, rfl, hbk, hx, q0, q1, q2, q3, q4, q5, q6, f0, f1, f2⟩ := (H.out.kept HB'.out).one hlt
      have hpx := HP.out _ (List.mem_of_getElem? hx)
      have HX := Lib.hid (show ((stepTs ls).map strB)[k]? = some (strB (stepT ⟨kd, ii, oo, ws, bs, ss, rl⟩)) by unfold stepTs; rw [List.getElem?_map, List.getElem?_map, hx]; rfl)
      have HC := Lib.hid (fun W (h1 : TabOk W) (h2 : KnOk W) => c_stepText ⟨⟨kd, ii, oo, ws, bs, ss, rl⟩, a0, c0, a1, c1, a2, c2⟩ W hpx.1.1 hpx.1.2 hpx.2.1.1 hpx.2.1.2 hpx.2.2.1 hpx.2.2.2 h1 h2)
      clear f0 f1 f2 hx hpx
      go_wp2_with fail
      have bal := (Below.refl wr.heap.size wr).alloc (Nat.le_refl _) (.cells #[.int .i64 kd, .int .i64 ii, .int .i64 oo, .slice a0 ws.length c0, .slice a1 bs.length c1, .slice a2 ss.length c2, .bool rl] 45)
      have HBA := Lib.hid (HB'.out.trans (bal.mono HB'.out.size))
      have HOA := Lib.hid (HO'.out.kept (row := none) ⟨bal.os, bal.tape, bal.output, bal.size, fun j hj _ => bal.block j hj⟩ (.inr (by simp [Value.ownBlock])))
      generalize wr.alloc (.cells #[.int .i64 kd, .int .i64 ii, .int .i64 oo, .slice a0 ws.length c0, .slice a1 bs.length c1, .slice a2 ss.length c2, .bool rl] 45) = wa at HBA HOA ⊢
      refine (HC.out wa (HT.out.kept HBA.out) (HK.out.kept HBA.out)).mono ?_
      rintro e w2 ⟨rfl, bl⟩
      have HO2 := Lib.hid (HOA.out.kept (row := none) ⟨bl.os, bl.tape, bl.output, bl.size, fun j hj _ => bl.block j hj⟩ (.inr (by simp [Value.ownBlock])))
      have HB2 := Lib.hid (Below.next HBA.out bl)
      have hfz : w2.frozen? ⟨w.heap.size, k, none⟩ = false := HO2.out.frozenAt k
      obtain ⟨v0, hv0⟩ : ∃ v, w2.cell? ⟨w.heap.size, k, none⟩ = some v := by
        rw [HO2.out.cellAt k (by omega)]
        exact ⟨_, List.getElem?_eq_getElem (by rw [HO2.out.1]; omega)⟩
      clear bl bal q0 q1 q2 q3 q4 q5 q6
      go_wp2_with fail
      go_roundw
      case rel =>
        obtain ⟨o1, o2⟩ := HO2.out.stored k (.string (strB (stepT ⟨kd, ii, oo, ws, bs, ss, rl⟩)))
        rw [copyS_set HSL.out HX.out] at o1
        exact ⟨k + 1, by omega, by go_num, o1, HB2.out.setCell (p := ⟨w.heap.size, k, none⟩) (Nat.le_refl _) _⟩
      case measure => simp [intOf]; omega
    · obtain rfl : k = n := by omega
      go_wp2_with fail
      go_ret
      have ho := HO'.out
      have e : copyS ((stepTs ls).map strB) k k = (stepTs ls).map fun l => Value.string (strB l) := by
        unfold copyS
        rw [Nat.sub_self, List.take_of_length_le (by rw [HSL.out]; exact Nat.le_refl _)]
        simp
      rw [e] at ho
      have hl2 : (stepTs ls).length = k := by have := HSL.out; rwa [List.length_map] at this
      refine ⟨_, k, rfl, ?_, HB'.out⟩
      unfold OwnS
      rw [hl2]
      exact ho
end Go.Proofs.YtdngbfpfhkkmpaaDoor
