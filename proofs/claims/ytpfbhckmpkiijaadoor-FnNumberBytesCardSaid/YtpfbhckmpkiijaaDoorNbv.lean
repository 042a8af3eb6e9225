/-
  Numbers and their bytes, in values: the bytes of numbers give them again, on one pattern for not-a-numbers. Conditions: none.
-/
import Derived.Test.YtpfbhckmpkiijaaDoorRbv
namespace Go.Proofs.YtpfbhckmpkiijaaDoor
open Go.RowKit Go.Deep Go.WideShapes Go.ChangeShapes
set_option linter.unusedVariables false
set_option linter.unusedSimpArgs false

theorem leN_wb (n : Nat) : ∀ (k j : Nat), leN ((List.range' j k).map (wbAt n)) = n / 256 ^ j % 256 ^ k
  | 0, j => by simp [leN, Nat.mod_one]
  | k + 1, j => by
    rw [List.range'_succ, List.map_cons, leN_cons, leN_wb n k (j + 1), wbAt_toNat, Nat.pow_succ 256 k, Nat.mul_comm (256 ^ k) 256, Nat.mod_mul, Nat.pow_succ, ← Nat.div_div_eq_div_mul]
    omega
theorem leN_wb4 {n : Nat} (h : n < 4294967296) : leN (wb n 4) = n := by
  have h1 := leN_wb n 4 0
  rw [Nat.pow_zero, Nat.div_one, Nat.mod_eq_of_lt (by omega)] at h1
  unfold wb
  rw [List.range_eq_range']
  exact h1
theorem nb_part (zs : List Nat) (i : Nat) (h : i < zs.length) : ((nb zs).drop (4 * i)).take 4 = wb (canon .f32 zs[i]) 4 := by
  induction zs generalizing i with
  | nil => simp at h
  | cons z zs ih =>
    have e : nb (z :: zs) = wb (canon .f32 z) 4 ++ nb zs := by simp [nb]
    have hl := wb_length (canon .f32 z) 4
    cases i with
    | zero => rw [e, Nat.mul_zero, List.drop_zero, List.take_append_of_le_length (by omega), List.take_of_length_le (by omega)]; rfl
    | succ i =>
      rw [e, show 4 * (i + 1) = (wb (canon .f32 z) 4).length + 4 * i by omega, List.drop_length_add_append]
      exact ih i (by simpa using h)
theorem num4_nb {zs tl : List Nat} {i : Nat} (h : i < zs.length) (hz : ∀ z ∈ zs, z < 4294967296) : num4 (nb zs) i = canon .f32 zs[i] := by
  unfold num4
  rw [nb_part zs i h]
  exact leN_wb4 (canon_lt32 (hz _ (List.getElem_mem h)))
theorem numsB_nb {zs : List Nat} (hz : ∀ z ∈ zs, z < 4294967296) : numsB (nb zs) zs.length = zs.map (canon .f32) := by
  refine List.ext_getElem (by simp [numsB]) fun i h1 h2 => ?_
  rw [numsB_length] at h1
  simp only [numsB, List.getElem_map, List.getElem_range]
  exact num4_nb (tl := []) h1 hz
theorem vBN_nb {zs : List Nat} (hz : ∀ z ∈ zs, z < 4294967296) (h4 : zs.length ≤ 4096) : vBytesNumbers (nb zs) = (true, zs.map (canon .f32)) := by
  have hl := nb_length zs
  have hd : (nb zs).length / 4 = zs.length := by omega
  have hc : nb (zs.map (canon .f32)) = nb zs := nb_canon zs
  unfold vBytesNumbers
  rw [if_pos (by simp only [okBN, hd, numsB_nb hz, hc, Bool.and_eq_true, decide_eq_true_eq]; exact ⟨by omega, trivial⟩), hd, numsB_nb hz]
  congr 1
  rw [List.map_map]
  exact List.map_congr_left fun x _ => canon_canon _ x
theorem vBN_odd {l : List UInt8} (h : l.length % 4 ≠ 0) : vBytesNumbers l = (false, []) := by
  unfold vBytesNumbers
  rw [if_neg]
  simp only [okBN, Bool.and_eq_true, decide_eq_true_eq]
  rintro ⟨_, e⟩
  have := congrArg List.length e
  rw [nb_length, numsB_length] at this
  omega
/-- a word of a not-a-number that BitsOf does not return is refused -/
theorem vBN_nan {zs : List Nat} (hz : ∀ z ∈ zs, z < 4294967296) : vBytesNumbers (nb zs ++ [1, 0, 192, 127]) = (false, []) := by
  unfold vBytesNumbers
  rw [if_neg]
  simp only [okBN, Bool.and_eq_true, decide_eq_true_eq]
  rintro ⟨_, e⟩
  have hl := nb_length zs
  have hd : (nb zs ++ [1, 0, 192, 127]).length / 4 = zs.length + 1 := by simp [hl]
  rw [hd, numsB_succ] at e
  have e2 : num4 (nb zs ++ [1, 0, 192, 127]) zs.length = 2143289345 := by
    unfold num4
    rw [show 4 * zs.length = (nb zs).length by omega, List.drop_left]
    rfl
  rw [e2, nb_append] at e
  have e3 : nb [2143289345] = [0, 0, 192, 127] := by decide +kernel
  rw [e3] at e
  have h5 := congrArg (List.drop (4 * zs.length)) e
  rw [List.drop_append_of_le_length (by rw [nb_length, numsB_length]; omega), List.drop_append_of_le_length (by omega), List.drop_of_length_le (by rw [nb_length, numsB_length]; omega), List.drop_of_length_le (by omega)] at h5
  simp at h5
end Go.Proofs.YtpfbhckmpkiijaaDoor
