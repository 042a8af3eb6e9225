/-
  What loss scales become behind a step: the same for the program and for its model. Conditions: the numbers fit their kinds.
-/
import Derived.Test.YtgffcmmdmenefaaSca
import Derived.OwnWalk
namespace Go.Proofs.Ytgffcmmdmenefaa
open Go.RowKit
set_option linter.unusedVariables false

theorem up_lt {s : Nat} (h1 : 947912704 ≤ s) (h2 : s ≤ 1266679808) : (FloatKind.f32.format.order (s + 8388608) 1266679808 == some .gt) = decide (1266679808 < s + 8388608) := by
  have hk : k32 (s + 8388608) = ((s + 8388608 : Nat) : Int) := k32_nn (by omega)
  have hm : k32 1266679808 = 1266679808 := rfl
  have hn : isNan .f32 (s + 8388608) = false := num32_of (by omega)
  by_cases h : 1266679808 < s + 8388608
  · rw [ord_gt (by omega) (by decide) hn num_most (by rw [hk, hm]; omega), decide_eq_true h]; rfl
  · by_cases h' : s + 8388608 = 1266679808
    · rw [h', ord_same num_most]; rfl
    · rw [ord_lt (by omega) (by decide) hn num_most (by rw [hk, hm]; omega), decide_eq_false h]; rfl
theorem down_lt {s : Nat} (h1 : 947912704 ≤ s) (h2 : s ≤ 1266679808) : (FloatKind.f32.format.order (s - 8388608) 947912704 == some .lt) = decide (s - 8388608 < 947912704) := by
  have hk : k32 (s - 8388608) = ((s - 8388608 : Nat) : Int) := k32_nn (by omega)
  have hm : k32 947912704 = 947912704 := rfl
  have hn : isNan .f32 (s - 8388608) = false := num32_of (by omega)
  by_cases h : s - 8388608 < 947912704
  · rw [ord_lt (by omega) (by decide) hn num_least (by rw [hk, hm]; omega), decide_eq_true h]; rfl
  · by_cases h' : s - 8388608 = 947912704
    · rw [h', ord_same num_least]; rfl
    · rw [ord_gt (by omega) (by decide) hn num_least (by rw [hk, hm]; omega), decide_eq_false h]; rfl
theorem b_alloc {w w1 : World} (h : Below w.heap.size w w1) (o : Obj) : Below w.heap.size w (w1.alloc o) := h.alloc h.size o
theorem b_set0 {w w1 : World} (h : Below w.heap.size w w1) (i : Nat) (u : Value) : Below w.heap.size w (w1.setCell ⟨w.heap.size, i, none⟩ u) := h.setCell (Nat.le_refl _) u
theorem b_set1 {w w1 : World} (h : Below w.heap.size w w1) (i : Nat) (u : Value) : Below w.heap.size w (w1.setCell ⟨w.heap.size + 1, i, none⟩ u) := h.setCell (Nat.le_succ _) u
theorem nS_no {s : Nat} {g q : Int} : nS s g q false = clampS (s - 8388608) := by unfold nS; simp
theorem nG_no {g q : Int} : nG g q false = 0 := by unfold nG; simp
theorem nS_up {s : Nat} {g q : Int} (h : q ≤ g + 1) : nS s g q true = clampS (s + 8388608) := by unfold nS; simp [h]
theorem nG_up {g q : Int} (h : q ≤ g + 1) : nG g q true = 0 := by unfold nG; simp [h]
theorem nS_on {s : Nat} {g q : Int} (h : ¬ q ≤ g + 1) : nS s g q true = s := by unfold nS; simp [h]
theorem nG_on {g q : Int} (h : ¬ q ≤ g + 1) : nG g q true = g + 1 := by unfold nG; simp [h]
theorem clamp_lo {x : Nat} (h : x < 947912704) : clampS x = 947912704 := if_pos (.inl h)
theorem clamp_mid {x : Nat} (h : 947912704 ≤ x) (h' : x ≤ 1266679808) : clampS x = x := by unfold clampS; rw [if_neg (by omega), if_pos h']
theorem clamp_hi {x : Nat} (h : 1266679808 < x) (h' : x < 2147483648) : clampS x = 1266679808 := by unfold clampS; rw [if_neg (by omega), if_neg (by omega)]
theorem half_num {s : Nat} (h1 : 947912704 ≤ s) (h2 : s ≤ 1266679808) : (∀ w, fval .quo .f32 s 1073741824 w = s - 8388608) ∧ s - 8388608 < 4294967296 ∧ isNan .f32 (s - 8388608) = false :=
  ⟨fun w => half_exact32 w (by omega) (by omega), by omega, num32_of (by omega)⟩
theorem dbl_num {s : Nat} (h1 : 947912704 ≤ s) (h2 : s ≤ 1266679808) : (∀ w, fval .mul .f32 s 1073741824 w = s + 8388608) ∧ (∀ w, fval .mul .f32 1073741824 s w = s + 8388608) ∧ s + 8388608 < 4294967296 ∧ isNan .f32 (s + 8388608) = false :=
  ⟨fun w => double_exact32 w (by omega) (by omega), fun w => double_exact32' w (by omega) (by omega), by omega, num32_of (by omega)⟩
set_option maxRecDepth 20000 in
set_option maxHeartbeats 2000000 in
theorem c_behind (s : Nat) (g q : Int) (f : Bool) (hv : okLS s g q = true) (w : World) : Calls Try.prog 52 #[scV s g q, .bool f] w fun e w' => e = .returned (scV (nS s g q f) (nG g q f) q) ∧ Below w.heap.size w w' := by
  obtain ⟨s1, s2, g1, g2, q1, q2⟩ := okLS_sc hv
  obtain ⟨hh, hl, hn⟩ := half_num s1 s2
  obtain ⟨_, dd, dl, dn⟩ := dbl_num s1 s2
  have hg : IntKind.i64.wrap (g + 1) = g + 1 := IntWalk.i64_in _ (by omega)
  clear hv
  cases f with
  | false =>
    have HX := Lib.hid (show scV (nS s g q false) (nG g q false) q = .agg #[.float .f32 (clampS (s - 8388608)), .int .i64 0, .int .i64 q] by unfold scV; rw [nS_no, nG_no])
    rw [HX.out]
    unfold scV
    clear HX dd dl dn
    go_enter Try.func52, Try.ntmps52
    go_wp2_with (go_at_call 89; refine (c_nearestScale _ hl hn _).mono ?_; rintro e w' ⟨rfl, rfl⟩)
    refine bodyPost_ret (v := .agg #[.float .f32 (clampS (s - 8388608)), .int .i64 0, .int .i64 q]) (by simp [results, Try.results52, go_sem]) rfl ⟨rfl, ?_⟩
    repeat first | with_reducible refine b_alloc ?_ _ | with_reducible refine b_set0 ?_ _ _ | with_reducible refine b_set1 ?_ _ _ | with_reducible refine below_drewN ?_ _
    exact Below.refl _ _
  | true =>
    by_cases hq : q ≤ g + 1
    · have HX := Lib.hid (show scV (nS s g q true) (nG g q true) q = .agg #[.float .f32 (clampS (s + 8388608)), .int .i64 0, .int .i64 q] by unfold scV; rw [nS_up hq, nG_up hq])
      rw [HX.out]
      unfold scV
      clear HX hh hl hn
      go_enter Try.func52, Try.ntmps52
      go_wp2_with (go_at_call 89; refine (c_nearestScale _ dl dn _).mono ?_; rintro e w' ⟨rfl, rfl⟩)
      refine bodyPost_ret (v := .agg #[.float .f32 (clampS (s + 8388608)), .int .i64 0, .int .i64 q]) (by simp [results, Try.results52, go_sem]) rfl ⟨rfl, ?_⟩
      repeat first | with_reducible refine b_alloc ?_ _ | with_reducible refine b_set0 ?_ _ _ | with_reducible refine b_set1 ?_ _ _ | with_reducible refine below_drewN ?_ _
      exact Below.refl _ _
    · have HX := Lib.hid (show scV (nS s g q true) (nG g q true) q = .agg #[.float .f32 s, .int .i64 (g + 1), .int .i64 q] by unfold scV; rw [nS_on hq, nG_on hq])
      rw [HX.out]
      unfold scV
      have hq' : g + 1 + 1 ≤ q := by omega
      clear HX hh hl hn dd dl dn
      go_enter Try.func52, Try.ntmps52
      go_wp2_with fail
      refine bodyPost_ret (v := .agg #[.float .f32 s, .int .i64 (g + 1), .int .i64 q]) (by simp [results, Try.results52, go_sem]) rfl ⟨rfl, ?_⟩
      repeat first | with_reducible refine b_alloc ?_ _ | with_reducible refine b_set0 ?_ _ _ | with_reducible refine b_set1 ?_ _ _ | with_reducible refine below_drewN ?_ _
      exact Below.refl _ _
end Go.Proofs.Ytgffcmmdmenefaa
