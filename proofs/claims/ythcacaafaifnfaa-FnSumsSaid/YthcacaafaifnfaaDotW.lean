/-
  The sum of products of small whole numbers in 64 bits, narrowed: the whole number. Conditions: the numbers can be read.
-/
import Derived.Test.YthcacaafaifnfaaSfl
import Derived.Test.YthcacaafaifnfaaDot
import Derived.Deep.Cut
import Derived.Deep.DeepCutAuto
import Derived.Deep.RegionLaw
namespace Go.Proofs.Ythcacaafaifnfaa
open Go.RowKit
set_option linter.unusedVariables false
attribute [local go_sem] World.drewN_zero

def DwRel (cs : List Int) (w : World) (s i : Value) (wr : World) : Prop :=
  ∃ k r m : Nat, k ≤ cs.length ∧ i = .int .i64 k ∧ s = .float .f64 r ∧ canon .f64 r = fi64 (isq (cs.take k)) ∧ r < 2 ^ 64 ∧ wr = w.drewN m
theorem dw_step {cs : List Int} (h : small cs) (hl : cs.length ≤ 256) {k r x : Nat} (hk : k < cs.length) (hx : fi32 (cs.getD k 0) = x) (hr : canon .f64 r = fi64 (isq (cs.take k))) :
    ∀ w1 w2 w3 w4, canon .f64 (fval .add .f64 r (fval .mul .f64 (wide x w1) (wide x w2) w3) w4) = fi64 (isq (cs.take (k + 1))) := by
  intro w1 w2 w3 w4
  have hc := h (cs.getD k 0) (by simp [List.getD, hk])
  have hs := isq_small h k (by omega)
  have hq := sq_small hc
  rw [canon_fval, canon_fval, canon_wide, canon_wide, ← hx, canon_fi32, (fi_at hc).1, hr, take_one hk, isq_snoc]
  generalize cs.getD k 0 = c at *
  have e1 : (c * c).natAbs < 9007199254740992 := by generalize c * c = p at *; omega
  have e2 : (isq (cs.take k) + c * c).natAbs < 9007199254740992 := by generalize c * c = p at *; omega
  exact dot_fi64 (by omega) (by omega) (by omega) e1 e2
theorem wide_some {c : Int} (h : -100 ≤ c ∧ c ≤ 100) : wideDr (fi32 c) = 0 := by unfold wideDr; rw [show isNan .f32 (fi32 c) = false from fi32_num c]; rfl
set_option maxHeartbeats 1000000 in
theorem c_dotIn64 (a b : Option Addr) (n ca cb : Nat) (cs : List Int) (hs : small cs) (hl : n ≤ 256) (w : World) (ha : IsFloats .f32 w a n ca (cs.map fi32)) (hb : IsFloats .f32 w b n cb (cs.map fi32)) :
    Calls Try.prog 23 #[.slice a n ca, .slice b n cb] w fun e w' => ∃ r m, canon .f64 r = fi64 (isq cs) ∧ e = .returned (.float .f64 r) ∧ w' = w.drewN m := by
  obtain ⟨a1, a2, a3, a4, a5⟩ := ha
  obtain ⟨b1, b2, b3, b4, b5⟩ := hb
  have hmax : n ≤ 256 := hl
  rw [List.length_map] at a3
  have A3 := Lib.hid a3
  have A5 := Lib.hid a5
  have B5 := Lib.hid b5
  have HS := Lib.hid hs
  clear a1 a2 a3 a4 a5 b1 b2 b3 b4 b5 hs hl
  go_enter Try.func23, Try.ntmps23
  go_wp2
  go_loopw [5, 10] (fun s i wr => DwRel cs w s i wr) (fun _ i _ => n - (intOf i).toNat)
  case atStart => exact ⟨0, 0, 0, Nat.zero_le _, rfl, rfl, by rw [List.take_zero]; decide +kernel, by decide, rfl⟩
  case round =>
    obtain ⟨k, r, m, hk, rfl, rfl, hr, hr2, rfl⟩ := hrel
    have HR := Lib.hid hr
    have HR2 := Lib.hid hr2
    rw [A3.out] at hk
    clear hr hr2
    by_cases hlt : k < n
    · rcases A5.out with h0 | ⟨p, off, ha, _, hca⟩
      · omega
      · rcases B5.out with h0 | ⟨q, off', hb, _, hcb⟩
        · omega
        · subst ha
          subst hb
          have c1 := hca k hlt
          have c2 := hcb k hlt
          have hx : (cs.map fi32).getD k 0 = fi32 (cs.getD k 0) := by simp [List.getD, show k < cs.length by rw [A3.out]; exact hlt]
          rw [hx] at c1 c2
          obtain ⟨x, hxx⟩ : ∃ x, fi32 (cs.getD k 0) = x := ⟨_, rfl⟩
          have HO := Lib.hid (dw_step HS.out (by rw [A3.out]; exact hmax) (show k < cs.length by rw [A3.out]; exact hlt) hxx HR.out)
          rw [hxx] at c1 c2
          clear hca hcb hx hxx
          go_wp2
          go_roundw
          case rel => exact ⟨k + 1, _, _, by rw [A3.out]; omega, by go_num, rfl, HO.out _ _ _ _, fval_lt .add .f64 _ _ _, rfl⟩
          case measure => simp [intOf]; omega
    · go_wp2
      go_ret
      exact ⟨r, _, by rw [HR.out, List.take_of_length_le (by rw [A3.out]; omega)], rfl, rfl⟩
theorem c_iNarrow' (x : Nat) (w : World) : Calls Try.prog 22 #[.float .f64 x] w fun e w' => ∃ m, e = .returned (.float .f32 (narrow x w)) ∧ w' = w.drewN m := by
  go_enter Try.func22, Try.ntmps22
  go_wp2
  go_ret
  exact ⟨_, rfl, rfl⟩
theorem c_iDotWide (a b : Option Addr) (n ca cb : Nat) (cs : List Int) (hs : small cs) (hl : n ≤ 256) (w : World) (ha : IsFloats .f32 w a n ca (cs.map fi32)) (hb : IsFloats .f32 w b n cb (cs.map fi32)) (hq : (isq cs).natAbs < 16777216) :
    Calls Try.prog 13 #[.slice a n ca, .slice b n cb] w (RetFT .f32 (fi32 (isq cs)) w) := by
  have HC := Lib.hid (fun w (ha : IsFloats .f32 w a n ca (cs.map fi32)) (hb : IsFloats .f32 w b n cb (cs.map fi32)) => c_dotIn64 a b n ca cb cs hs hl w ha hb)
  have HA := Lib.hid ha
  have HB := Lib.hid hb
  have HQ := Lib.hid hq
  have HD := Lib.hid (decide_eq_true (show n = n ∧ n ≤ 256 from ⟨rfl, hl⟩))
  clear ha hb hq hs hl
  go_enter Try.func13, Try.ntmps13
  go_wp2_with (go_at_call 17; refine (c_canDot _ _ _ _ _ _ _).mono ?_; rintro e w' ⟨rfl, rfl⟩; rw [HD.out])
  refine (HC.out _ HA.out HB.out).mono ?_
  rintro e w' ⟨r, m, hr, rfl, rfl⟩
  have hr2 : r = fi64 (isq cs) := by
    have hn : isNan .f64 r = false := by rw [← isNan_canon, hr]; exact fi64_num _
    rw [← hr, canon_num hn]
  have HR := Lib.hid hr2
  clear hr hr2
  go_wp2_with fail
  refine (c_iNarrow' _ _).mono ?_
  rintro e w' ⟨m2, rfl, rfl⟩
  go_wp2_with fail
  go_ret2
  exact ⟨_, m + m2, by rw [HR.out]; exact (narrow_whole HQ.out _).1, narrow_lt _ _, rfl, rfl⟩
end Go.Proofs.Ythcacaafaifnfaa
