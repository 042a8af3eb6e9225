/-
  Quotients of numbers and spreads as 64-bit numbers, made whole, and their limits. Conditions: as each says.
-/
import Derived.Test.YtkpcjjnaocdelaaMm
import Derived.Test.YtkpcjjnaocdelaaBound
namespace Go.Proofs.Ytkpcjjnaocdelaa
open Go.RowKit Ieee
set_option linter.unusedVariables false

/-! whole numbers of the library -/
def rteV (way : Ieee.Toward) (x : Nat) : Nat := Ieee.double.write ((Ieee.double.read x).integral way)
theorem rte_num {way : Ieee.Toward} {x : Nat} (h : isNan .f64 x = false) : isNan .f64 (rteV way x) = false := by
  refine write_num Ieee.double _ ?_
  have h' : (Ieee.double.read x).isNaN = false := h
  cases hd : Ieee.double.read x with
  | number s m p => rfl
  | infinity s => rfl
  | nan s t => rw [hd] at h'; cases h'
theorem run_integral {P : Program} {name : String} {way : Ieee.Toward} {x : Nat} (h : isNan .f64 x = false) (w : World) : (Extern.MathFloor.toIntegral name way #[.float .f64 x]).run P w = .ok (.float .f64 (rteV way x)) w := by
  have h' : (Ieee.double.read x).isNaN = false := h
  unfold rteV
  change Sem.run P (match FloatKind.f64.decode x with | .nan s t => _ | d => pure (Value.float .f64 (FloatKind.f64.encode (d.integral way)))) w = _
  rw [show FloatKind.f64.decode x = Ieee.double.read x from rfl]
  cases hd : Ieee.double.read x with
  | number s m p => rfl
  | infinity s => rfl
  | nan s t => rw [hd] at h'; cases h'

/-! 64-bit numbers as integers that rise with them -/
def k64 (x : Nat) : Int := if x < 9223372036854775808 then (x : Int) else -((x - 9223372036854775808 : Nat) : Int)
theorem key_k64 {x : Nat} (h : x < 18446744073709551616) : key Ieee.double x = k64 x := by
  unfold key k64
  rw [double_sw]
  by_cases h1 : x < 9223372036854775808
  · have e1 : x / 9223372036854775808 % 2 = 0 := by omega
    rw [if_pos h1, e1, Nat.mod_eq_of_lt h1, if_neg (by decide)]
  · have e1 : x / 9223372036854775808 % 2 = 1 := by omega
    have e2 : x % 9223372036854775808 = x - 9223372036854775808 := by omega
    rw [if_neg h1, e1, e2, if_pos (by decide)]
theorem ord64 {x y : Nat} (hx : x < 18446744073709551616) (hy : y < 18446744073709551616) (nx : isNan .f64 x = false) (ny : isNan .f64 y = false) : FloatKind.f64.format.order x y = some (compare (k64 x) (k64 y)) := by
  rw [← key_k64 hx, ← key_k64 hy]
  exact order_key Ieee.double x y (by rw [double_bin, double_inf]; decide) nx ny
theorem o64_lt {x y : Nat} (hx : x < 18446744073709551616) (hy : y < 18446744073709551616) (nx : isNan .f64 x = false) (ny : isNan .f64 y = false) (h : k64 x < k64 y) : FloatKind.f64.format.order x y = some .lt := by
  rw [ord64 hx hy nx ny, Int.compare_eq_ite_lt, if_pos h]
theorem o64_gt {x y : Nat} (hx : x < 18446744073709551616) (hy : y < 18446744073709551616) (nx : isNan .f64 x = false) (ny : isNan .f64 y = false) (h : k64 y < k64 x) : FloatKind.f64.format.order x y = some .gt := by
  rw [ord64 hx hy nx ny, Int.compare_eq_ite_lt, if_neg (by omega), if_pos h]
theorem o64_eq {x y : Nat} (hx : x < 18446744073709551616) (hy : y < 18446744073709551616) (nx : isNan .f64 x = false) (ny : isNan .f64 y = false) (h : k64 x = k64 y) : FloatKind.f64.format.order x y = some .eq := by
  rw [ord64 hx hy nx ny, Int.compare_eq_ite_lt, if_neg (by omega), if_neg (by omega)]

/-! limits -/
def f2i (v : Nat) : Int := ((Ieee.double.read v).toInt .zero).getD 0
def lim (v : Nat) : Int := if 4638637247447433216 < k64 v then 127 else if k64 v < -4638637247447433216 then -127 else f2i v
theorem gap_eq (k : Nat) : 1 <<< k = 2 ^ k := by rw [Nat.shiftLeft_eq, Nat.one_mul]
theorem zero_cut {s : Bool} {n drop B : Nat} (h : n ≤ B * 2 ^ drop) : Toward.zero.cut s n drop ≤ B := by
  unfold Toward.cut
  simp only [gap_eq, Bool.toNat_false, Nat.add_zero]
  by_cases hd : drop ≤ n.log2 + 2
  · rw [Nat.min_eq_left hd]
    exact Nat.div_le_of_le_mul (by rw [Nat.mul_comm]; exact h)
  · rw [Nat.min_eq_right (by omega)]
    have : n < 2 ^ (n.log2 + 2) := Nat.lt_of_lt_of_le Nat.lt_log2_self (Nat.pow_le_pow_right (by decide) (by omega))
    rw [Nat.div_eq_of_lt this]
    exact Nat.zero_le _
theorem f2i_small {v : Nat} (h : v % 9223372036854775808 ≤ 4638637247447433216) : floatToIntVal .f64 v .i64 = some (f2i v) ∧ -128 ≤ f2i v ∧ f2i v ≤ 128 := by
  have hb : v % 9223372036854775808 ≤ pow2 Ieee.double 7 := Nat.le_trans h (by rw [double_pow]; decide)
  obtain ⟨s, m, e, hr, hm⟩ := B64.read hb (by decide) (by decide)
  have hn : Toward.zero.cut s (m <<< e.toNat) (-e).toNat ≤ 128 := by
    refine zero_cut ?_
    rw [Nat.shiftLeft_eq]
    rcases hm with rfl | ⟨he, hm⟩
    · simp
    · by_cases h0 : 0 ≤ e
      · rw [show (-e).toNat = 0 by omega, Nat.pow_zero, Nat.mul_one]
        calc m * 2 ^ e.toNat ≤ 2 ^ (7 - e).toNat * 2 ^ e.toNat := Nat.mul_le_mul_right _ hm
          _ = 2 ^ ((7 - e).toNat + e.toNat) := (Nat.pow_add ..).symm
          _ = 128 := by rw [show (7 - e).toNat + e.toNat = 7 by omega]
      · rw [show e.toNat = 0 by omega, Nat.pow_zero, Nat.mul_one]
        calc m ≤ 2 ^ (7 - e).toNat := hm
          _ = 2 ^ (7 + (-e).toNat) := by rw [show (7 - e).toNat = 7 + (-e).toNat by omega]
          _ = 128 * 2 ^ (-e).toNat := by rw [Nat.pow_add]
  have hi : (Ieee.double.read v).toInt .zero = some (signed s (Toward.zero.cut s (m <<< e.toNat) (-e).toNat) 0) := by rw [hr]; rfl
  have hf : f2i v = signed s (Toward.zero.cut s (m <<< e.toNat) (-e).toNat) 0 := by unfold f2i; rw [hi]; rfl
  have hr1 : -128 ≤ f2i v ∧ f2i v ≤ 128 := by
    rw [hf]
    generalize Toward.zero.cut s (m <<< e.toNat) (-e).toNat = N at hn
    unfold signed
    rw [Nat.shiftLeft_zero]
    split <;> omega
  refine ⟨?_, hr1⟩
  have hd : (FloatKind.f64.decode v).toInt .zero = some (f2i v) := by rw [hf]; exact hi
  unfold floatToIntVal
  rw [hd]
  simp only
  rw [if_pos]
  have e1 : IntKind.i64.min = -9223372036854775808 := by decide
  have e2 : IntKind.i64.max = 9223372036854775807 := by decide
  rw [e1, e2]
  omega
theorem lim_in (v : Nat) (hv : v < 18446744073709551616) : -128 ≤ lim v ∧ lim v ≤ 128 := by
  unfold lim
  split
  · omega
  · split
    · omega
    · rename_i h1 h2
      refine (f2i_small ?_).2
      unfold k64 at h1 h2
      split at h1 <;> omega
theorem f2i_127 : f2i 4638637247447433216 = 127 := by decide +kernel
theorem f2i_m127 : f2i 13862009284302209024 = -127 := by decide +kernel
theorem num_127 : isNan .f64 4638637247447433216 = false := by decide +kernel
theorem num_m127 : isNan .f64 13862009284302209024 = false := by decide +kernel
/-- what both limits make of a number, and the integer of it -/
def clampC (v : Nat) : Nat := if 4638637247447433216 < k64 v then 4638637247447433216 else if k64 v < -4638637247447433216 then 13862009284302209024 else v
theorem clamp_ways {v : Nat} (hv : v < 18446744073709551616) (hn : isNan .f64 v = false) : ∃ u, (∀ w, mmv true .f64 v 13862009284302209024 w = u) ∧ mmDr .f64 v 13862009284302209024 = 0 ∧ (∀ w, mmv false .f64 u 4638637247447433216 w = clampC v) ∧ mmDr .f64 u 4638637247447433216 = 0 := by
  have kl : k64 13862009284302209024 = -4638637247447433216 := by decide
  have kh : k64 4638637247447433216 = 4638637247447433216 := by decide
  have hp : FloatKind.f64.format.order 13862009284302209024 4638637247447433216 = some .lt := o64_lt (by decide) (by decide) num_m127 num_127 (by decide)
  by_cases h1 : k64 v < -4638637247447433216
  · have ho := o64_lt hv (by decide) hn num_m127 (by rw [kl]; exact h1)
    refine ⟨13862009284302209024, fun w => mm_lt w ho, mmDr_some ho, fun w => ?_, mmDr_some hp⟩
    rw [mm_lt w hp]
    unfold clampC
    rw [if_neg (show ¬ 4638637247447433216 < k64 v by omega), if_pos h1]; rfl
  · have m1 : (∀ w, mmv true .f64 v 13862009284302209024 w = v) ∧ mmDr .f64 v 13862009284302209024 = 0 := by
      by_cases e : k64 v = -4638637247447433216
      · have ev : v = 13862009284302209024 := by unfold k64 at e; split at e <;> omega
        subst ev
        exact ⟨fun w => mm_same w num_m127, mmDr_some (order_refl num_m127)⟩
      · have ho := o64_gt hv (by decide) hn num_m127 (by rw [kl]; omega)
        exact ⟨fun w => mm_gt w ho, mmDr_some ho⟩
    refine ⟨v, m1.1, m1.2, ?_⟩
    by_cases h2 : 4638637247447433216 < k64 v
    · have ho := o64_gt hv (by decide) hn num_127 (by rw [kh]; exact h2)
      refine ⟨fun w => ?_, mmDr_some ho⟩
      rw [mm_gt w ho]
      unfold clampC
      rw [if_pos h2]; rfl
    · have hc : clampC v = v := by unfold clampC; rw [if_neg h2, if_neg h1]
      rw [hc]
      by_cases e : k64 v = 4638637247447433216
      · have ev : v = 4638637247447433216 := by unfold k64 at e; split at e <;> omega
        subst ev
        exact ⟨fun w => mm_same w num_127, mmDr_some (order_refl num_127)⟩
      · have ho := o64_lt hv (by decide) hn num_127 (by rw [kh]; omega)
        exact ⟨fun w => mm_lt w ho, mmDr_some ho⟩
theorem clamp_val {v : Nat} (hv : v < 18446744073709551616) : floatToIntVal .f64 (clampC v) .i64 = some (lim v) := by
  unfold clampC lim
  by_cases h1 : 4638637247447433216 < k64 v
  · rw [if_pos h1, if_pos h1]
    have := (f2i_small (v := 4638637247447433216) (by decide)).1
    rw [f2i_127] at this
    exact this
  · rw [if_neg h1, if_neg h1]
    by_cases h2 : k64 v < -4638637247447433216
    · rw [if_pos h2, if_pos h2]
      have := (f2i_small (v := 13862009284302209024) (by decide)).1
      rw [f2i_m127] at this
      exact this
    · rw [if_neg h2, if_neg h2]
      refine (f2i_small ?_).1
      unfold k64 at h1 h2
      split at h1 <;> omega
theorem run_f2i {v : Nat} {n : Int} (h : floatToIntVal .f64 v .i64 = some n) (w : World) : (convert 110 2 (.float .f64 v)).run Try.prog w = .ok (.int .i64 n) w :=
  run_convert_float_int w _ _ .f64 .i64 v n (by rw [Try.underlying110]; rfl) Try.underlying2 h
/-! quotients with spreads -/
theorem cwide_at {x : Nat} (h : fin32 x = true) : cwide x = Ieee.double.write (Ieee.single.read x) := by
  have hn : isNan .f32 x = false := by simp only [fin32, decide_eq_true_eq] at h; rw [isNan32]; simp; omega
  unfold cwide; rw [hn]; rfl
theorem wide_at {x : Nat} (h : fin32 x = true) : (∀ w, wide x w = cwide x) ∧ wideDr x = 0 := by
  have hn : isNan .f32 x = false := by simp only [fin32, decide_eq_true_eq] at h; rw [isNan32]; simp; omega
  refine ⟨fun w => ?_, ?_⟩
  · unfold wide cwide; rw [hn]; rfl
  · unfold wideDr; rw [hn]; rfl
theorem cwide_read {x : Nat} (h : fin32 x = true) : ∃ s m e, Ieee.double.read (cwide x) = .number s m e := by
  obtain ⟨s, m, e, hr⟩ := read32_fin h
  have h1 := widen_fin hr
  have h2 : (Ieee.double.read (cwide x)).isNaN = false := by rw [cwide_at h]; exact write_num Ieee.double _ (by rw [hr]; rfl)
  rw [cwide_at h, hr] at h2 ⊢
  cases hd : Ieee.double.read (Ieee.double.write (.number s m e)) with
  | number a b c => exact ⟨a, b, c, rfl⟩
  | infinity a => rw [hd] at h1; cases h1
  | nan a b => rw [hd] at h2; cases h2
theorem cwide_some {s : Nat} (h0 : 0 < s) (h : s < 2139095040) : ∃ t m e, Ieee.double.read (cwide s) = .number t m e ∧ m ≠ 0 := by
  have hf : fin32 s = true := by simp only [fin32, decide_eq_true_eq]; omega
  obtain ⟨t, m, e, hr⟩ := cwide_read hf
  refine ⟨t, m, e, hr, ?_⟩
  obtain ⟨m1, e1, hr1, hm1⟩ := read_mag hf
  obtain ⟨_, g2, _⟩ := read32_num hr1
  have hm1' : m1 ≠ 0 := fun h => by have := hm1.1 h; omega
  have hge : AtLeast m1 e1 (-149) := by
    unfold AtLeast
    rw [show (-149 - e1).toNat = 0 by omega, Nat.pow_zero]
    exact Nat.mul_pos (Nat.pos_of_ne_zero hm1') (Nat.two_pow_pos _)
  have hb := nearest_ge Ieee.double (s / 2147483648 % 2 == 1) hge (by rw [double_least, double_frac]; decide) (by rw [double_pow, double_inf]; decide)
  have hw : cwide s = Ieee.double.nearest (s / 2147483648 % 2 == 1) m1 e1 := by rw [cwide_at hf, hr1]; rfl
  rw [← hw, double_pow, double_sw] at hb
  intro hm
  subst hm
  have hx : cwide s % 9223372036854775808 < 9218868437227405312 := by
    by_cases hi : cwide s % 9223372036854775808 < 9218868437227405312
    · exact hi
    · exfalso
      unfold Format.read at hr
      simp only [double_bin, double_inf, double_sw, double_least] at hr
      rw [if_neg (by omega), if_neg (by omega)] at hr
      split at hr <;> cases hr
  unfold Format.read at hr
  simp only [double_bin, double_inf, double_sw, double_least] at hr
  have h9 : ((-149 : Int) + 1023).toNat * 4503599627370496 = 3936146074321813504 := by decide
  rw [h9] at hb
  rw [if_neg (by omega), if_pos hx] at hr
  injection hr with _ hm2 _
  omega
/-- the quotient -/
def vq (x s : Nat) : Nat := cop .quo .f64 (cwide x) (cwide s)
theorem vq_at {x s : Nat} (hx : fin32 x = true) (h0 : 0 < s) (hs : s < 2139095040) : (∀ w, fval .quo .f64 (cwide x) (cwide s) w = vq x s) ∧ fdr .quo .f64 (cwide x) (cwide s) = 0 ∧ isNan .f64 (vq x s) = false ∧ vq x s < 18446744073709551616 := by
  obtain ⟨a, m, i, hr⟩ := cwide_read hx
  obtain ⟨b, n, j, hr2, hn⟩ := cwide_some h0 hs
  have hb : ∃ r, floatBits .quo .f64 (cwide x) (cwide s) = some r := by
    show ∃ r, ((Ieee.double.read (cwide x)).quotient _ (Ieee.double.read (cwide s))).map Ieee.double.write = some r
    rw [hr, hr2]
    unfold Datum.quotient
    simp only [if_neg hn]
    exact ⟨_, rfl⟩
  obtain ⟨r, hb⟩ := hb
  have e : vq x s = r := by unfold vq cop; rw [hb]; rfl
  rw [e]
  refine ⟨fun w => fval_some w hb, by simp [fdr, hb], floatBits_num hb, ?_⟩
  exact FloatKind.f64.format.div_lt hb
end Go.Proofs.Ytkpcjjnaocdelaa
