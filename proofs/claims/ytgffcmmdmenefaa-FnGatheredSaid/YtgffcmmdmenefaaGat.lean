/-
  What gathering makes of numbers: sums of what they are rounded to, and rests. Conditions: none.
-/
import Derived.Test.YtgffcmmdmenefaaBfloat
import Derived.Test.YtgffcmmdmenefaaMm
import Derived.Test.YtgffcmmdmenefaaOp5
namespace Go.Proofs.Ytgffcmmdmenefaa
open Go.RowKit Go.Deep Go.WideShapes Go.ChangeShapes Ieee
set_option linter.unusedVariables false

/-- the nearest bfloat, on canonical bits -/
def cbf (d : Nat) : Nat := canon .f32 (bf d)
theorem cbf_of (x : Nat) : canon .f32 (bf x) = cbf (canon .f32 x) := by
  unfold cbf
  by_cases h : isNan .f32 x = true
  · have h1 : 2139095040 ≤ x % 2147483648 := by rw [isNan32] at h; simp at h; omega
    rw [bf_inf h1, canon_nan h]
    decide +kernel
  · rw [canon_num (b := x) (by simpa using h)]
def gst (x : Nat) : Nat → Nat × Nat
  | 0 => (0, 0)
  | r + 1 => (cop .add .f32 (gst x r).1 (cbf (cop .add .f32 x (gst x r).2)), cop .sub .f32 (cop .add .f32 x (gst x r).2) (cbf (cop .add .f32 x (gst x r).2)))
theorem nearest_pos (s : Bool) {N : Nat} {p : Int} (h : N ≠ 0) (hp : -149 ≤ p) : ∃ r, Ieee.single.nearest s N p = Ieee.single.word s r ∧ 0 < r ∧ r ≤ 2139095040 := by
  unfold Format.nearest
  simp only [h, if_false, single_frac, single_least, single_bin, single_inf]
  generalize hlast : max (p + (N.log2 : Int) - (23 : Nat)) (-149) = last
  refine ⟨_, rfl, ?_, Nat.min_le_right _ _⟩
  rw [Nat.lt_min]
  refine ⟨?_, by decide⟩
  by_cases h1 : last = -149
  · subst h1
    rw [show (-149 - p).toNat = 0 by omega, cut_zero]
    have : 0 < N <<< (p - -149).toNat := shl_pos h
    omega
  · have h2 : -149 < last := by omega
    have h3 : 1 ≤ (last - -149).toNat := by omega
    have : 1 * 8388608 ≤ (last - -149).toNat * 8388608 := Nat.mul_le_mul_right _ h3
    omega
theorem bf_sign {x : Nat} (hx : x < 4294967296) (hf : fin32 x = true) : bf x / 2147483648 % 2 = x / 2147483648 % 2 ∧ bf x < 4294967296 ∧ bf x % 2147483648 ≤ 2139095040 := by
  simp only [fin32, decide_eq_true_eq] at hf
  rw [bf_fin (by omega)]
  obtain ⟨q, hq⟩ : ∃ q, x / 65536 % 2 = q := ⟨_, rfl⟩
  have hq2 : q ≤ 1 := by omega
  rw [hq]
  by_cases h1 : x < 2147483648
  · have h2 : (x + 32767 + q) / 65536 ≤ 32640 := by omega
    generalize (x + 32767 + q) / 65536 = u at *
    omega
  · have h2 : (x + 32767 + q) / 65536 ≤ 65408 := by omega
    have h3 : 32768 ≤ (x + 32767 + q) / 65536 := by omega
    generalize (x + 32767 + q) / 65536 = u at *
    omega
theorem cbf_fin {y : Nat} (hy : y < 4294967296) (hf : fin32 y = true) : cbf y = bf y := by
  obtain ⟨_, _, h⟩ := bf_sign hy hf
  exact canon_num (by rw [isNan32]; simp; omega)
/-- a rest that is equal to 0 is +0 -/
theorem rest_zero {y : Nat} (hy : y < 4294967296) (hz : (FloatKind.f32.format.order (cop .sub .f32 y (cbf y)) 0 == some .eq) = true) : cop .sub .f32 y (cbf y) = 0 := by
  by_cases hf : fin32 y = true
  · obtain ⟨hs, hb, hb2⟩ := bf_sign hy hf
    rw [cbf_fin hy hf] at hz ⊢
    obtain ⟨m, i, hr, _⟩ := read_mag hf
    obtain ⟨_, hi, _⟩ := read32_num hr
    by_cases hbf : fin32 (bf y) = true
    · obtain ⟨n, j, hr2, _⟩ := read_mag hbf
      obtain ⟨_, hj, _⟩ := read32_num hr2
      rw [hs] at hr2
      obtain ⟨s, hsg⟩ : ∃ s, (y / 2147483648 % 2 == 1) = s := ⟨_, rfl⟩
      rw [hsg] at hr hr2
      have e : floatBits .sub .f32 y (bf y) = some (Ieee.single.nearest (if signed s m (i - min i j).toNat + signed (!s) n (j - min i j).toNat = 0 then s && !s else decide (signed s m (i - min i j).toNat + signed (!s) n (j - min i j).toNat < 0)) (signed s m (i - min i j).toNat + signed (!s) n (j - min i j).toNat).natAbs (min i j)) := by
        show ((Ieee.single.read y).sum (Ieee.single.read (bf y)).opposite).map Ieee.single.write = _
        rw [hr, hr2]
        rfl
      have hc := congrArg (fun o => Option.getD o (qnan .f32)) e
      simp only [Option.getD_some] at hc
      change cop .sub .f32 y (bf y) = _ at hc
      by_cases ht : signed s m (i - min i j).toNat + signed (!s) n (j - min i j).toNat = 0
      · rw [hc, if_pos ht, ht]
        cases s <;> (unfold Format.nearest; simp [Format.word])
      · exfalso
        obtain ⟨r, hr3, hr0, hr4⟩ := nearest_pos (if signed s m (i - min i j).toNat + signed (!s) n (j - min i j).toNat = 0 then s && !s else decide (signed s m (i - min i j).toNat + signed (!s) n (j - min i j).toNat < 0)) (N := (signed s m (i - min i j).toNat + signed (!s) n (j - min i j).toNat).natAbs) (p := min i j) (by omega) (by omega)
        rw [hr3] at hc
        rw [hc] at hz
        generalize (if signed s m (i - min i j).toNat + signed (!s) n (j - min i j).toNat = 0 then s && !s else decide (signed s m (i - min i j).toNat + signed (!s) n (j - min i j).toNat < 0)) = b at hz
        unfold Format.word at hz
        rw [single_sw] at hz
        have hw : (if b = true then 2147483648 + r else r) < 4294967296 := by split <;> omega
        have hn : isNan .f32 (if b = true then 2147483648 + r else r) = false := by
          rw [isNan32]
          split <;> simp <;> omega
        rw [ord32 hw (by decide) hn (num32_of (by decide)), Int.compare_eq_ite_lt] at hz
        have hk : k32 0 = 0 := rfl
        rw [hk] at hz
        cases b
        · simp only [Bool.false_eq_true, if_false] at hz
          rw [k32_nn (show r < 2147483648 by omega), if_neg (show ¬ ((r : Int) < 0) by omega), if_pos (show (0 : Int) < (r : Int) by omega)] at hz
          cases hz
        · simp only [if_true] at hz
          rw [k32_neg (show 2147483648 ≤ 2147483648 + r by omega), if_pos (show -((2147483648 + r - 2147483648 : Nat) : Int) < 0 by omega)] at hz
          cases hz
    · exfalso
      have hi2 : bf y % 2147483648 = 2139095040 := by
        have : ¬ bf y % 2147483648 < 2139095040 := by simpa [fin32] using hbf
        omega
      obtain ⟨s, hr2⟩ := read32_inf hi2
      have e : cop .sub .f32 y (bf y) = Ieee.single.write (.infinity (!s)) := by
        unfold cop
        have : floatBits .sub .f32 y (bf y) = some (Ieee.single.write (.infinity (!s))) := by
          show ((Ieee.single.read y).sum (Ieee.single.read (bf y)).opposite).map Ieee.single.write = _
          rw [hr, hr2]
          rfl
        rw [this]; rfl
      rw [e] at hz
      cases s <;> revert hz <;> decide +kernel
  · exfalso
    have hf : fin32 y = false := by simpa using hf
    have hb : bf y = y := bf_inf (by simp only [fin32, decide_eq_false_iff_not] at hf; omega)
    have hn : floatBits .sub .f32 y (cbf y) = none := by
      unfold cbf
      rw [hb]
      by_cases hn : isNan .f32 y = true
      · exact floatBits_nan_l _ _ hn
      · rw [canon_num (by simpa using hn)]
        refine sub_self_inf ?_
        rw [isNan32] at hn
        simp only [fin32, decide_eq_false_iff_not] at hf
        simp at hn
        omega
    have hc : cop .sub .f32 y (cbf y) = qnan .f32 := by unfold cop; rw [hn]; rfl
    rw [hc] at hz
    revert hz
    decide +kernel
end Go.Proofs.Ytgffcmmdmenefaa
