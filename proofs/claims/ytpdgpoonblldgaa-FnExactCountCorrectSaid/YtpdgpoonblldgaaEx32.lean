/-
  Doubling and halving 32-bit numbers is exact: the word is more or less by a binade. Conditions: as each says.
-/
import Derived.Test.YtpdgpoonblldgaaBound
namespace Go.Proofs.Ytpdgpoonblldgaa
open Ieee

theorem log2_shift32 {M k : Nat} (h1 : 8388608 ≤ M) (h2 : M < 16777216) : (M * 2 ^ k).log2 = 23 + k := by
  have hM : M * 2 ^ k ≠ 0 := Nat.ne_of_gt (Nat.mul_pos (by omega) (Nat.two_pow_pos k))
  apply Nat.le_antisymm
  · have : (M * 2 ^ k).log2 < 24 + k := by
      rw [Nat.log2_lt hM, Nat.pow_add]
      exact Nat.mul_lt_mul_of_pos_right h2 (Nat.two_pow_pos k)
    omega
  · rw [Nat.le_log2 hM, Nat.pow_add]
    exact Nat.mul_le_mul_right _ h1
theorem cut_exact32 (s : Bool) (M k : Nat) : Toward.even.cut s (M * 2 ^ k) k = M :=
  Nat.le_antisymm (cut_le s (Nat.le_refl _)) (cut_ge s (Nat.le_refl _))
/-- a number of 24 digits is written as it is -/
theorem nearest_exact32 (s : Bool) {M k : Nat} {p : Int} (h1 : 8388608 ≤ M) (h2 : M < 16777216) (hp : -149 ≤ p + k) :
    Ieee.single.nearest s (M * 2 ^ k) p = Ieee.single.word s (min ((p + k + 149).toNat * 8388608 + M) 2139095040) := by
  unfold Format.nearest
  simp only
  rw [if_neg (Nat.ne_of_gt (Nat.mul_pos (by omega) (Nat.two_pow_pos k))), log2_shift32 h1 h2, single_least, single_frac, single_bin, single_inf]
  rw [show max (p + ((23 + k : Nat) : Int) - ((23 : Nat) : Int)) (-149) = p + k by omega]
  rw [show (p - (p + (k : Int))).toNat = 0 by omega, show (p + (k : Int) - p).toNat = k by omega, Nat.shiftLeft_eq, Nat.pow_zero, Nat.mul_one, cut_exact32]
  rw [show p + (k : Int) - -149 = p + k + 149 by omega]

theorem read_normal32 {x : Nat} (h1 : 8388608 ≤ x) (h2 : x < 2139095040) :
    Ieee.single.read x = .number false (8388608 + x % 8388608) (-149 + ((x / 8388608 - 1 : Nat) : Int)) := by
  unfold Format.read
  simp only
  rw [single_sw, single_bin, single_inf, single_least, Nat.mod_eq_of_lt (show x < 2147483648 by omega), Nat.div_eq_of_lt (show x < 2147483648 by omega), if_neg (by omega), if_pos h2]
  rfl
theorem read_two32 : Ieee.single.read 1073741824 = .number false 8388608 (-22) := by decide +kernel

theorem double_exact32 {x : Nat} (w : World) (h1 : 8388608 ≤ x) (h2 : x < 2130706432) : fval .mul .f32 x 1073741824 w = x + 8388608 := by
  have hm : x % 8388608 < 8388608 := Nat.mod_lt _ (by decide)
  have hd := Nat.div_add_mod x 8388608
  refine fval_some w ?_
  show ((Ieee.single.read x).product (Ieee.single.read 1073741824)).map Ieee.single.write = _
  rw [read_normal32 h1 (by omega), read_two32]
  have hq1 : 1 ≤ x / 8388608 := by omega
  generalize x / 8388608 = q at *
  generalize x % 8388608 = t at *
  have hpro : (Datum.number false (8388608 + t) (-149 + ((q - 1 : Nat) : Int))).product (Datum.number false 8388608 (-22)) = some (.number (false ^^ false) ((8388608 + t) * 2 ^ 23) (-149 + ((q - 1 : Nat) : Int) + -22)) := by
    rw [show (2 : Nat) ^ 23 = 8388608 by decide]; unfold Datum.product; rfl
  rw [hpro, Option.map_some]
  unfold Format.write
  simp only
  rw [nearest_exact32 _ (by omega) (by omega) (by omega)]
  refine congrArg some ?_
  unfold Format.word
  rw [if_neg (by decide)]
  rw [show (-149 + ((q - 1 : Nat) : Int) + -22 + ((23 : Nat) : Int) + 149).toNat = q by omega]
  omega
theorem half_exact32 {x : Nat} (w : World) (h1 : 16777216 ≤ x) (h2 : x < 2139095040) : fval .quo .f32 x 1073741824 w = x - 8388608 := by
  have hm : x % 8388608 < 8388608 := Nat.mod_lt _ (by decide)
  have hd := Nat.div_add_mod x 8388608
  refine fval_some w ?_
  show ((Ieee.single.read x).quotient 25 (Ieee.single.read 1073741824)).map Ieee.single.write = _
  rw [read_normal32 (by omega) h2, read_two32]
  have hq1 : 2 ≤ x / 8388608 := by omega
  generalize x / 8388608 = q at *
  generalize x % 8388608 = t at *
  have hlog : (8388608 + t).log2 = 23 := by have := log2_shift32 (M := 8388608 + t) (k := 0) (by omega) (by omega); simpa using this
  have hlog2 : (8388608 : Nat).log2 = 23 := by decide +kernel
  have hquo : (Datum.number false (8388608 + t) (-149 + ((q - 1 : Nat) : Int))).quotient 25 (Datum.number false 8388608 (-22)) = some (.number (false ^^ false) ((8388608 + t) * 2 ^ 3) (-149 + ((q - 1 : Nat) : Int) - -22 - ((25 : Nat) : Int) - 1)) := by
    unfold Datum.quotient
    simp only
    rw [if_neg (by decide), hlog, hlog2, Nat.shiftLeft_eq]
    rw [show (25 + 23 - 23 : Nat) = 25 from rfl]
    rw [show (8388608 + t) * 2 ^ 25 = 8388608 * ((8388608 + t) * 4) by omega, Nat.mul_div_cancel_left _ (by decide), Nat.mul_mod_right]
    congr 2
    simp
    omega
  rw [hquo, Option.map_some]
  unfold Format.write
  simp only
  rw [nearest_exact32 _ (by omega) (by omega) (by omega)]
  refine congrArg some ?_
  unfold Format.word
  rw [if_neg (by decide)]
  rw [show (-149 + ((q - 1 : Nat) : Int) - -22 - ((25 : Nat) : Int) - 1 + ((3 : Nat) : Int) + 149).toNat = q - 2 by omega]
  obtain ⟨p, rfl⟩ : ∃ p, q = p + 2 := ⟨q - 2, by omega⟩
  have e1 : p + 2 - 2 = p := by omega
  rw [e1, Nat.min_eq_left (by omega)]
  omega

theorem product_comm (x y : Datum) : x.product y = y.product x := by
  cases x <;> cases y <;> simp [Datum.product, Bool.xor_comm, Nat.mul_comm, Int.add_comm] <;> (try (split <;> simp_all))
theorem mul_comm32 (x y : Nat) : floatBits .mul .f32 x y = floatBits .mul .f32 y x := by
  show ((Ieee.single.read x).product (Ieee.single.read y)).map Ieee.single.write = ((Ieee.single.read y).product (Ieee.single.read x)).map Ieee.single.write
  rw [product_comm]
theorem double_exact32' {x : Nat} (w : World) (h1 : 8388608 ≤ x) (h2 : x < 2130706432) : fval .mul .f32 1073741824 x w = x + 8388608 := by
  have h := double_exact32 w h1 h2
  have hs : floatBits .mul .f32 x 1073741824 = some (x + 8388608) := by
    cases hb : floatBits .mul .f32 x 1073741824 with
    | none =>
      exfalso
      have hn : isNan .f32 (fval .mul .f32 x 1073741824 w) = true := fval_none w hb
      rw [h, isNan32] at hn
      simp only [decide_eq_true_eq] at hn
      omega
    | some r => rw [fval_some w hb] at h; rw [h]
  exact fval_some w (by rw [mul_comm32]; exact hs)
theorem dr_some {op : BinOp} {k : FloatKind} {x y v : Nat} (w : World) (h : fval op k x y w = v) (hn : isNan k v = false) : fdr op k x y = 0 := by
  cases hb : floatBits op k x y with
  | none => have := fval_none w hb; rw [h, hn] at this; cases this
  | some r => simp [fdr, hb]
end Go.Proofs.Ytpdgpoonblldgaa
