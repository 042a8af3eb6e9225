/-
  Numbers from bytes, in values: the least byte first, four bytes a number. Conditions: none.
-/
import Derived.Test.YtpfbhckmpkiijaaDoorWc
namespace Go.Proofs.YtpfbhckmpkiijaaDoor
open Go.RowKit Go.Deep Go.WideShapes Go.ChangeShapes
set_option linter.unusedVariables false
set_option linter.unusedSimpArgs false

def leN (l : List UInt8) : Nat := l.foldr (fun c n => n * 256 + c.toNat) 0
theorem leN_cons (c : UInt8) (l : List UInt8) : leN (c :: l) = leN l * 256 + c.toNat := rfl
theorem leN_lt (l : List UInt8) : leN l < 256 ^ l.length := by
  induction l with
  | nil => simp [leN]
  | cons c l ih =>
    have hc := c.toNat_lt
    rw [leN_cons, List.length_cons, Nat.pow_succ]
    omega
theorem leN_drop {l : List UInt8} {j : Nat} (h : j < l.length) : leN (l.drop j) = leN (l.drop (j + 1)) * 256 + (l[j]).toNat := by
  rw [List.drop_eq_getElem_cons h, leN_cons]
theorem or_byte {a b : Nat} (hb : b < 256) (ha : a < 36028797018963968) : bits .or .i64 ((a * 256 : Nat) : Int) (b : Int) = ((a * 256 + b : Nat) : Int) := by
  show IntKind.i64.wrap ((BitVec.ofInt 64 ((a * 256 : Nat) : Int) ||| BitVec.ofInt 64 (b : Int)).toNat : Int) = _
  have h1 : (BitVec.ofInt 64 ((a * 256 : Nat) : Int)).toNat = a * 256 := by rw [BitVec.ofInt_natCast, BitVec.toNat_ofNat]; exact Nat.mod_eq_of_lt (by omega)
  have h2 : (BitVec.ofInt 64 (b : Int)).toNat = b := by rw [BitVec.ofInt_natCast, BitVec.toNat_ofNat]; exact Nat.mod_eq_of_lt (by omega)
  have h3 : a * 256 ||| b = a * 256 + b := by
    have h := Nat.two_pow_add_eq_or_of_lt (i := 8) (b := b) (by omega) a
    rw [show 2 ^ 8 * a = a * 256 by omega] at h
    exact h.symm
  rw [BitVec.toNat_or, h1, h2, h3, IntKind.wrap_i64]
  omega
def num4 (l : List UInt8) (i : Nat) : Nat := leN ((l.drop (4 * i)).take 4)
theorem num4_lt (l : List UInt8) (i : Nat) : num4 l i < 4294967296 := by
  have h := leN_lt ((l.drop (4 * i)).take 4)
  have h2 : ((l.drop (4 * i)).take 4).length ≤ 4 := List.length_take_le _ _
  have h3 : 256 ^ ((l.drop (4 * i)).take 4).length ≤ 256 ^ 4 := Nat.pow_le_pow_right (by decide) h2
  unfold num4
  exact Nat.lt_of_lt_of_le h h3
def numsB (l : List UInt8) (n : Nat) : List Nat := (List.range n).map (num4 l)
theorem numsB_succ (l : List UInt8) (n : Nat) : numsB l (n + 1) = numsB l n ++ [num4 l n] := by simp [numsB, List.range_succ]
theorem numsB_length (l : List UInt8) (n : Nat) : (numsB l n).length = n := by simp [numsB]
theorem numsB_lt (l : List UInt8) (n : Nat) : ∀ x ∈ numsB l n, x < 4294967296 := by
  intro x hx
  obtain ⟨i, _, rfl⟩ := List.mem_map.1 hx
  exact num4_lt l i
def okBN (l : List UInt8) : Bool := decide (l.length ≤ 16384) && decide (nb (numsB l (l.length / 4)) = l)
def vBytesNumbers (l : List UInt8) : Bool × List Nat := if okBN l = true then (true, (numsB l (l.length / 4)).map (canon .f32)) else (false, [])
theorem vBytesNumbers_len (l : List UInt8) : (vBytesNumbers l).2.length ≤ 4096 := by
  unfold vBytesNumbers
  split
  · rename_i h
    simp only [okBN, Bool.and_eq_true, decide_eq_true_eq] at h
    simp only [List.length_map, numsB_length]
    omega
  · simp
end Go.Proofs.YtpfbhckmpkiijaaDoor
