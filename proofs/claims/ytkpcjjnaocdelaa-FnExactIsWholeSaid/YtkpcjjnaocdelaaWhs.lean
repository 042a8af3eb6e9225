/-
  Whether all numbers of a list are whole: the model. Conditions: the numbers can be read, the limit is from 1 to 1000.
-/
import Derived.Test.YtkpcjjnaocdelaaWhn
import Derived.Test.YtkpcjjnaocdelaaAll
import Derived.Test.YtkpcjjnaocdelaaNext
namespace Go.Proofs.Ytkpcjjnaocdelaa
open Go.RowKit Ieee Go.Deep Go.WideShapes Go.ChangeShapes
set_option linter.unusedVariables false
set_option linter.unusedSimpArgs false

theorem run_f2i32 {v : Nat} {n : Int} (h : floatToIntVal .f32 v .i64 = some n) (w : World) : (convert 107 2 (.float .f32 v)).run Try.prog w = .ok (.int .i64 n) w :=
  run_convert_float_int w _ _ .f32 .i64 v n (by rw [Try.underlying107]; rfl) Try.underlying2 h
theorem sval_neg32 {n : Nat} (h : n ≤ 1024) : sval Ieee.single (Op.negFloat .f32 (fi32 (n : Int))) = -((n * 2 ^ 149 : Nat) : Int) ∧ isNan .f32 (Op.negFloat .f32 (fi32 (n : Int))) = false := by
  obtain ⟨h1, h2⟩ := fi32_pos h
  obtain ⟨r, h3, h4, h5⟩ := fi32_small (n := (n : Int)) (by omega)
  have hw : Ieee.single.word false r = r := by unfold Format.word; simp
  rw [show decide ((n : Int) < 0) = false by simp, hw] at h3
  have hx : Op.negFloat .f32 (fi32 (n : Int)) = fi32 (n : Int) + 2147483648 := by
    rw [neg32 (by omega)]
    unfold opp
    rw [if_pos h1]
  rw [hx, sval_sgn]
  unfold neg? magX
  rw [show (fi32 (n : Int) + 2147483648) / 2147483648 % 2 = 1 by omega, show (fi32 (n : Int) + 2147483648) % 2147483648 = fi32 (n : Int) by omega, h2]
  refine ⟨by simp [sgn], ?_⟩
  rw [isNan32]; simp; omega
theorem range_hi {x n : Nat} (hn : n ≤ 1000) (hx : isNan .f32 x = false) : FloatKind.f32.format.order x (fi32 (n : Int)) = some (compare (sgn (neg? x) (magX x)) ((n * 2 ^ 149 : Nat) : Int)) := by
  rw [order32 hx (fi32_num _), sval_sgn, sval_fi32 (by omega), Int.natCast_mul]
theorem range_lo {x n : Nat} (hn : n ≤ 1000) (hx : isNan .f32 x = false) : FloatKind.f32.format.order x (Op.negFloat .f32 (fi32 (n : Int))) = some (compare (sgn (neg? x) (magX x)) (-((n * 2 ^ 149 : Nat) : Int))) := by
  obtain ⟨h1, h2⟩ := sval_neg32 (n := n) (by omega)
  rw [order32 hx h2, sval_sgn, h1]
theorem whole_nan {most x : Nat} (h : isNan .f32 x = true) : wholeF most x = false := by
  rw [isNan32] at h
  simp at h
  unfold wholeF fin?
  rw [decide_eq_false (by omega)]; rfl
theorem whole_far {most x : Nat} (h : ¬ (x % 2147483648 < 2139095040 ∧ magX x ≤ most * 2 ^ 149)) : wholeF most x = false := by
  unfold wholeF fin?
  by_cases h1 : x % 2147483648 < 2139095040
  · have h2 : ¬ magX x ≤ most * 2 ^ 149 := fun h2 => h ⟨h1, h2⟩
    rw [decide_eq_false h2]; simp
  · rw [decide_eq_false h1]; rfl
/-- the range of the limit, by magnitude -/
theorem magX_mono {x y : Nat} (h : x % 2147483648 ≤ y % 2147483648) : magX x ≤ magX y := by
  unfold magX
  rcases Nat.lt_or_eq_of_le h with h | h
  · exact Nat.le_of_lt (mag_mono (by decide) h)
  · rw [h]; exact Nat.le_refl _
theorem magX_fin {x n : Nat} (hn : n ≤ 1000) (hm : magX x ≤ n * 2 ^ 149) : x % 2147483648 < 2139095040 := by
  by_cases h : x % 2147483648 < 2139095040
  · exact h
  · exfalso
    obtain ⟨h1, h2⟩ := fi32_pos (n := 1024) (by omega)
    obtain ⟨r, h3, h4, h5⟩ := fi32_small (n := ((1024 : Nat) : Int)) (by decide)
    have h6 : mag 8388608 r < mag 8388608 (x % 2147483648) := mag_mono (by decide) (by omega)
    unfold magX at hm
    rw [h5] at h6
    have : ((1024 : Nat) : Int).natAbs = 1024 := rfl
    rw [this] at h6
    have := Nat.mul_le_mul_right (2 ^ 149) hn
    have h7 : 1024 * 2 ^ 149 = 1000 * 2 ^ 149 + 24 * 2 ^ 149 := by rw [← Nat.add_mul]
    omega
theorem cmp_cases (a b : Int) : (a < b ∧ compare a b = .lt) ∨ (a = b ∧ compare a b = .eq) ∨ (b < a ∧ compare a b = .gt) := by
  rw [Int.compare_eq_ite_lt]
  by_cases h1 : a < b
  · exact .inl ⟨h1, if_pos h1⟩
  · by_cases h2 : b < a
    · exact .inr (.inr ⟨h2, by rw [if_neg h1, if_pos h2]⟩)
    · exact .inr (.inl ⟨by omega, by rw [if_neg h1, if_neg h2]⟩)
def WhRel (most : Nat) (zs : List Nat) (w : World) (i : Value) (wr : World) : Prop := ∃ k : Nat, k ≤ zs.length ∧ i = .int .i64 k ∧ (∀ j, j < k → wholeF most (zs.getD j 0) = true) ∧ wr = w
theorem all_yes {g : Nat → Bool} {zs : List Nat} (h : ∀ j, j < zs.length → g (zs.getD j 0) = true) : zs.all g = true := by
  rw [List.all_eq_true]
  intro x hx
  obtain ⟨i, hi, rfl⟩ := List.mem_iff_getElem.1 hx
  have := h i hi
  simpa [List.getD, hi] using this
theorem all_no {g : Nat → Bool} {zs : List Nat} {k : Nat} (hk : k < zs.length) (h : g (zs.getD k 0) = false) : zs.all g = false := by
  rw [List.all_eq_false]
  refine ⟨zs.getD k 0, ?_, by rw [h]; simp⟩
  simp [List.getD, hk]
set_option maxRecDepth 20000 in
set_option maxHeartbeats 2000000 in
theorem c_l09Whole (a : Option Addr) (n cap most : Nat) (zs : List Nat) (w : World) (h : IsFloats .f32 w a n cap zs) (hm1 : 1 ≤ most) (hm : most ≤ 1000) :
    Calls Try.prog 87 #[.slice a n cap, .int .i64 most] w fun e w' => e = .returned (.bool (zs.all (wholeF most))) ∧ w = w' := by
  have HF := Lib.hid h
  have HMM := Lib.hid hm
  have hmax : n ≤ 9223372036854775807 := by have h1 := h.1; have h2 := h.2.1; unfold maxLen at h2; omega
  have hlen := h.2.2.1
  subst hlen
  clear h
  go_enter Try.func87, Try.ntmps87
  go_wp2_with fail
  go_loopw [5] (fun i wr => WhRel most zs w i wr) (fun i _ => zs.length - (intOf i).toNat)
  case atStart => exact ⟨0, Nat.zero_le _, rfl, (fun j hj => by omega), rfl⟩
  case round =>
    obtain ⟨k, hk, rfl, hz, rfl⟩ := hrel
    have HZ := Lib.hid hz
    have hk0 : (0 : Int) ≤ (k : Int) := by omega
    clear hz
    by_cases hlt : k < zs.length
    · have hlt' : (k : Int) < (zs.length : Int) := by omega
      rcases HF.out.2.2.2.2 with h' | ⟨ab, off, rfl, hab, hcell⟩
      · omega
      have hx := hcell k hlt
      have hmem : zs.getD k 0 ∈ zs := by
        unfold List.getD
        rw [List.getElem?_eq_getElem hlt]
        exact List.getElem_mem _
      have hxl := HF.out.2.2.2.1 _ hmem
      obtain ⟨x, hxe⟩ : ∃ x, zs.getD k 0 = x := ⟨_, rfl⟩
      rw [hxe] at hx hxl
      have HXE := Lib.hid hxe
      clear hcell hmem
      have NO := fun (hw : wholeF most x = false) => all_no hlt (show wholeF most (zs.getD k 0) = false by rw [hxe]; exact hw)
      by_cases hn : isNan .f32 x = true
      · have ho1 : FloatKind.f32.format.order x (floatOfInt .f32 (most : Int)) = none := order_isNan_l _ hn
        have HN := Lib.hid (NO (whole_nan hn))
        clear hn hxl hxe NO
        go_wp2_with fail
        go_ret
        exact ⟨ret_b HN.out.symm, rfl⟩
      · have hn' : isNan .f32 x = false := by simpa using hn
        have hhi : FloatKind.f32.format.order x (floatOfInt .f32 (most : Int)) = some (compare (sgn (neg? x) (magX x)) ((most * 2 ^ 149 : Nat) : Int)) := range_hi hm hn'
        have hlo : FloatKind.f32.format.order x (Op.negFloat .f32 (floatOfInt .f32 (most : Int))) = some (compare (sgn (neg? x) (magX x)) (-((most * 2 ^ 149 : Nat) : Int))) := range_lo hm hn'
        obtain ⟨M, hM⟩ : ∃ M, most * 2 ^ 149 = M := ⟨_, rfl⟩
        rw [hM] at hhi hlo
        have hsg : sgn (neg? x) (magX x) = (magX x : Int) ∨ sgn (neg? x) (magX x) = -(magX x : Int) := by unfold sgn; cases neg? x <;> simp
        rcases cmp_cases (sgn (neg? x) (magX x)) (M : Int) with ⟨c1, e1⟩ | ⟨c1, e1⟩ | ⟨c1, e1⟩
        case inr.inr =>
          rw [e1] at hhi
          have HN := Lib.hid (NO (whole_far (fun h => by have h2 := h.2; rw [hM] at h2; omega)))
          clear hn hn' hxl hxe NO hlo hM hsg e1 c1
          go_wp2_with fail
          go_ret
          exact ⟨ret_b HN.out.symm, rfl⟩
        all_goals
          rw [e1] at hhi
          rcases cmp_cases (sgn (neg? x) (magX x)) (-(M : Int)) with ⟨c2, e2⟩ | ⟨c2, e2⟩ | ⟨c2, e2⟩
          case inl =>
            rw [e2] at hlo
            have HN := Lib.hid (NO (whole_far (fun h => by have h2 := h.2; rw [hM] at h2; omega)))
            clear hn hn' hxl hxe NO hM hsg e1 c1 e2 c2
            go_wp2_with fail
            go_ret
            exact ⟨ret_b HN.out.symm, rfl⟩
          all_goals
            rw [e2] at hlo
            have hmag : magX x ≤ most * 2 ^ 149 := by rw [hM]; omega
            have hm1000 : magX x ≤ 1000 * 2 ^ 149 := Nat.le_trans hmag (Nat.mul_le_mul_right _ hm)
            have hfin := magX_fin hm hmag
            obtain ⟨hc, hq⟩ := f2i_mag hfin hm1000
            have hcv := fun w => run_f2i32 hc w
            have ho3 : FloatKind.f32.format.order x (floatOfInt .f32 (sgn (neg? x) (magX x / 2 ^ 149))) = some (compare (sgn (neg? x) (magX x)) (sgn (neg? x) (magX x / 2 ^ 149 * 2 ^ 149))) := cut_back hfin hm1000
            have hwi := whole_iff hfin hmag
            obtain ⟨t, ht⟩ : ∃ t, sgn (neg? x) (magX x / 2 ^ 149) = t := ⟨_, rfl⟩
            obtain ⟨cc, hcc⟩ : ∃ cc, compare (sgn (neg? x) (magX x)) (sgn (neg? x) (magX x / 2 ^ 149 * 2 ^ 149)) = cc := ⟨_, rfl⟩
            rw [ht] at hcv ho3
            rw [hcc] at ho3 hwi
            clear hn hn' hxl hM hsg e1 c1 e2 c2 hmag hm1000 hfin hc hq ht hcc
            cases cc with
            | eq =>
              have HW := Lib.hid (show wholeF most (zs.getD k 0) = true by rw [hxe, ← hwi]; rfl)
              clear hwi hxe NO
              go_wp2_with fail
              go_roundw
              case rel => exact ⟨k + 1, hlt, by go_num, (fun j hj => if e : j = k then by rw [e]; exact HW.out else HZ.out j (by omega)), rfl⟩
              case measure => simp [intOf]; omega
            | lt =>
              have HN := Lib.hid (NO (by rw [← hwi]; rfl))
              clear hwi hxe NO
              go_wp2_with fail
              go_ret
              exact ⟨ret_b HN.out.symm, rfl⟩
            | gt =>
              have HN := Lib.hid (NO (by rw [← hwi]; rfl))
              clear hwi hxe NO
              go_wp2_with fail
              go_ret
              exact ⟨ret_b HN.out.symm, rfl⟩
    · obtain rfl : k = zs.length := by omega
      have HN := Lib.hid (all_yes HZ.out)
      go_wp2_with fail
      go_ret
      exact ⟨ret_b HN.out.symm, rfl⟩
end Go.Proofs.Ytkpcjjnaocdelaa
