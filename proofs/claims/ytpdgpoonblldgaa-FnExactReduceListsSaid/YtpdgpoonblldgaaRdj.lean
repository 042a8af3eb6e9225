/-
  ReduceLists: the model's sum of two lists. Conditions: the numbers can be read.
-/
import Derived.Test.YtpdgpoonblldgaaRdi
import Derived.Test.YtpdgpoonblldgaaLoss
namespace Go.Proofs.Ytpdgpoonblldgaa
open Go.RowKit Go.Deep Go.WideShapes Go.ChangeShapes
set_option linter.unusedVariables false
set_option linter.unusedSimpArgs false

def sumOf (ys ts : List Nat) (k : Nat) : Nat := cop .add .f32 (canon .f32 (ys.getD k 0)) (canon .f32 (ts.getD k 0))
theorem c_l10Kind (k : Int) (w : World) : Calls Try.prog 72 #[.int .i64 k] w fun e w' => e = .returned (.bool (decide (0 ≤ k) && decide (k ≤ 2))) ∧ w = w' := by
  obtain ⟨b, hb⟩ : ∃ b, (decide (0 ≤ k) && decide (k ≤ 2)) = b := ⟨_, rfl⟩
  rw [hb]
  have HB := Lib.hid hb
  clear hb
  go_enter Try.func72, Try.ntmps72
  go_wp2_with (go_at_call 73; refine (c_l00In k 0 2 b HB.out _).mono ?_; rintro e w' ⟨rfl, rfl⟩)
  go_ret
  exact ⟨rfl, rfl⟩
set_option maxRecDepth 20000 in
set_option maxHeartbeats 4000000 in
theorem c_l10Add (a b : Option Addr) (n ca cb : Nat) (ys ts : List Nat) (w : World) (ha : IsFloats .f32 w a n ca ys) (hb : IsFloats .f32 w b n cb ts) (hn : n ≤ 512) : Calls Try.prog 117 #[.slice a n ca, .slice b n cb] w (RetLs ((List.range n).map (sumOf ys ts)) w) := by
  have HA := Lib.hid ha
  have HB := Lib.hid hb
  obtain ⟨i0, hi, hz0, hz1, hz2⟩ := info_parts info_f32
  have HI := Lib.hid hi
  have HZ0 := Lib.hid hz0
  have HZ1 := Lib.hid hz1
  have HZ2 := Lib.hid hz2
  clear ha hb hi hz0 hz1 hz2
  go_enter Try.func117, Try.ntmps117
  go_wp2_with fail
  go_loopw [5, 6] (fun s i wr => GrowRel (sumOf ys ts) n w.heap.size w s i wr) (fun _ i _ => n - (intOf i).toNat)
  case atStart => exact grow_first (Nat.le_refl _) rfl (Below.refl _ _) (Nat.le_refl _)
  case round =>
    obtain ⟨k, q, cp, xs, hk, rfl, rfl, hy, ho, he, hl⟩ := hrel
    have HY := Lib.hid hy
    have HO := Lib.hid ho
    have HE := Lib.hid he
    have HL := Lib.hid hl
    have hk0 : (0 : Int) ≤ (k : Int) := by omega
    clear hy ho he hl
    by_cases hlt : k < n
    · have hlt' : (k : Int) < (n : Int) := by omega
      rcases HA.out.2.2.2.2 with h' | ⟨ab, off, rfl, hab, hcell⟩
      · omega
      rcases HB.out.2.2.2.2 with h' | ⟨ab2, off2, rfl, hab2, hcell2⟩
      · omega
      have hx : wr.cell? ⟨ab, off + k, none⟩ = some (.float .f32 (ys.getD k 0)) := (HL.out.cell (p := ⟨ab, off + k, none⟩) hab).trans (hcell k hlt)
      have hx2 : wr.cell? ⟨ab2, off2 + k, none⟩ = some (.float .f32 (ts.getD k 0)) := (HL.out.cell (p := ⟨ab2, off2 + k, none⟩) hab2).trans (hcell2 k hlt)
      have HG := Lib.hid (show ∀ x y w1, ys.getD k 0 = x → ts.getD k 0 = y → canon .f32 (fval .add .f32 x y w1) = sumOf ys ts k by intro x y w1 h1 h2; rw [canon_fval, ← h1, ← h2]; rfl)
      obtain ⟨x, hxx⟩ : ∃ x, ys.getD k 0 = x := ⟨_, rfl⟩
      obtain ⟨y, hyy⟩ : ∃ x, ts.getD k 0 = x := ⟨_, rfl⟩
      rw [hxx] at hx
      rw [hyy] at hx2
      have HG2 := Lib.hid (fun w1 => HG.out x y w1 hxx hyy)
      clear hcell hcell2 hxx hyy HG
      have A1 := Lib.hid (show xs.length + 1 ≤ maxLen by have := HY.out; unfold maxLen; omega)
      have A2 := Lib.hid (show (xs.length + 1) * 4 ≤ 140737488355328 by have := HY.out; omega)
      have A3 := Lib.hid HL.out.size
      go_wp2_with fail
      go_region_law (refine step_append_any _ rfl (.tmp 14) (.tmp 24) 25 rfl w.heap.size 67 i0 (.float .f32 0) 1 4 Try.underlying25 HI.out HZ0.out HZ1.out HZ2.out rfl Nat.one_pos (.slice q xs.length cp) xs.length (xs.map (Value.float .f32)) rfl (grow_own HO.out) (wr.heap.size + 1) (some ⟨wr.heap.size, 0, none⟩) 1 1 [.float .f32 _] rfl grow_reads (one_f32 _) A1.out A2.out (grow_base A3.out) ?_; intro v' w' hown hgr hat; obtain ⟨a', c', rfl⟩ := ownsRow_slice hown; have hmade := grow_next (n := n) hlt HO.out (Nat.le_refl _) HL.out HE.out HY.out (fval_lt .add .f32 _ _ _) (HG2.out _) hown hgr; have HMD := Lib.hid hmade; clear hown hgr hat hmade)
      all_goals
        go_wp2_with fail
        go_roundw
        case rel => exact HMD.out
        case measure => simp [intOf]; omega
    · obtain rfl : k = n := by omega
      go_wp2_with fail
      go_ret
      exact ⟨q, cp, xs, rfl, HO.out, HE.out, HL.out⟩
end Go.Proofs.Ytpdgpoonblldgaa
