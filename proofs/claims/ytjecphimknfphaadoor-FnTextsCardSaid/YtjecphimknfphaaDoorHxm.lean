/-
  Hexadecimal digits: their values, and the model's text of a number. Conditions: the number has 32 bits.
-/
import Derived.Test.YtjecphimknfphaaDoorTlm
namespace Go.Proofs.YtjecphimknfphaaDoor
open Go.RowKit Go.Deep Go.WideShapes Go.ChangeShapes
set_option linter.unusedVariables false
set_option linter.unusedSimpArgs false

def hd (d : Nat) : UInt8 := if d < 10 then UInt8.ofNat (48 + d) else UInt8.ofNat (87 + d)
/-- the digits of a number, the first ahead -/
def hx (u : Nat) : List UInt8 := if h : u < 16 then [hd u] else hx (u / 16) ++ [hd (u % 16)]
termination_by u
decreasing_by omega
theorem hx_small {u : Nat} (h : u < 16) : hx u = [hd u] := by rw [hx, dif_pos h]
theorem hx_big {u : Nat} (h : ¬ u < 16) : hx u = hx (u / 16) ++ [hd (u % 16)] := (hx.eq_1 u).trans (dif_neg h)
/-- k digits of a number -/
def hk (k n : Nat) : List UInt8 := (List.range k).map fun j => hd (n / 16 ^ (k - 1 - j) % 16)
theorem hk_succ (k n : Nat) : hk (k + 1) n = hk k (n / 16) ++ [hd (n % 16)] := by
  unfold hk
  rw [List.range_succ, List.map_append]
  congr 1
  · refine List.map_congr_left fun j hj => ?_
    have hj := List.mem_range.1 hj
    rw [show k + 1 - 1 - j = (k - 1 - j) + 1 by omega, Nat.pow_succ, Nat.mul_comm, ← Nat.div_div_eq_div_mul]
  · simp
theorem hk_zero (k : Nat) : hk k 0 = List.replicate k 48 := by
  unfold hk
  rw [List.eq_replicate_iff]
  refine ⟨by simp, fun c hc => ?_⟩
  obtain ⟨j, _, rfl⟩ := List.mem_map.1 hc
  rw [Nat.zero_div]
  rfl
theorem hk_len (k n : Nat) : (hk k n).length = k := by simp [hk]
theorem hx_len (k : Nat) : ∀ n, n < 16 ^ k → 1 ≤ k → 1 ≤ (hx n).length ∧ (hx n).length ≤ k := by
  induction k with
  | zero => intro n _ h; omega
  | succ k ih =>
    intro n hn _
    by_cases h : n < 16
    · rw [hx_small h]; simp
    · rw [Nat.pow_succ] at hn
      rw [hx_big h, List.length_append, List.length_singleton]
      cases k with
      | zero => omega
      | succ k => have := ih (n / 16) (by omega) (by omega); omega
theorem hk_hx (k : Nat) : ∀ n, n < 16 ^ k → 1 ≤ k → hk k n = List.replicate (k - (hx n).length) 48 ++ hx n := by
  induction k with
  | zero => intro n _ h; omega
  | succ k ih =>
    intro n hn _
    rw [hk_succ]
    by_cases h : n < 16
    · rw [hx_small h, show n / 16 = 0 by omega, hk_zero, Nat.mod_eq_of_lt h]
      rfl
    · rw [Nat.pow_succ] at hn
      cases k with
      | zero => omega
      | succ k =>
        rw [ih (n / 16) (by omega) (by omega), hx_big h, List.length_append, List.length_singleton, List.append_assoc]
        congr 2
        omega
/-- the text of a number -/
def numT (z : Nat) : List UInt8 := hk 8 (canon .f32 z)
theorem hd_toNat {d : Nat} (h : d < 16) : (hd d).toNat = if d < 10 then 48 + d else 87 + d := by
  unfold hd
  split <;> (rw [UInt8.toNat_ofNat']; omega)
theorem hk_take (n j : Nat) (hj : j < 8) : (hk 8 n).take (j + 1) = (hk 8 n).take j ++ [hd (n / 16 ^ (7 - j) % 16)] := by
  have hl : j < (hk 8 n).length := by rw [hk_len]; exact hj
  rw [List.take_succ_eq_append_getElem hl]
  congr 2
  simp [hk]
theorem hex_at (i : Nat) (h : i < 16) : (⟨#[48, 49, 50, 51, 52, 53, 54, 55, 56, 57, 97, 98, 99, 100, 101, 102]⟩ : ByteArray)[i]'(by simpa [ByteArray.size] using h) = hd i := by
  have : ∀ i : Fin 16, (⟨#[48, 49, 50, 51, 52, 53, 54, 55, 56, 57, 97, 98, 99, 100, 101, 102]⟩ : ByteArray)[i.val]'(by simp [ByteArray.size]) = hd i.val := by decide +kernel
  exact this ⟨i, h⟩
theorem i64_and15 (a : Nat) (ha : a < 9223372036854775808) : bits .and .i64 (a : Int) 15 = ((a % 16 : Nat) : Int) := by
  show IntKind.i64.wrap ((BitVec.ofInt 64 (a : Int) &&& BitVec.ofInt 64 (15 : Int)).toNat : Int) = _
  have h1 : (BitVec.ofInt 64 (a : Int)).toNat = a := by rw [BitVec.ofInt_natCast, BitVec.toNat_ofNat]; exact Nat.mod_eq_of_lt (by omega)
  have h2 : (BitVec.ofInt 64 (15 : Int)).toNat = 15 := by decide
  have h3 : a &&& 15 = a % 16 := Nat.and_two_pow_sub_one_eq_mod a 4
  rw [BitVec.toNat_and, h1, h2, h3, IntKind.wrap_i64]
  omega
end Go.Proofs.YtjecphimknfphaaDoor
