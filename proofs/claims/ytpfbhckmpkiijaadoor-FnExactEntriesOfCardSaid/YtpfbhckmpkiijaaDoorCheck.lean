/-
  What the check number of a text is. Conditions: none.
-/
import Derived.Test.YtpfbhckmpkiijaaDoorBits
namespace Go.Proofs.YtpfbhckmpkiijaaDoor
open Go.RowKit

def chk (n : Int) (l : List UInt8) : Int := l.foldl (fun n c => (523 * n + (c.toNat : Int) + 17) % 65003) n
theorem chk_bd {n : Int} (h0 : 0 ≤ n) (h1 : n ≤ 65002) (l : List UInt8) : 0 ≤ chk n l ∧ chk n l ≤ 65002 := by
  unfold chk
  induction l generalizing n with
  | nil => exact ⟨h0, h1⟩
  | cons c l ih =>
    have hc : c.toNat < 256 := UInt8.toNat_lt _
    exact ih (n := (523 * n + (c.toNat : Int) + 17) % 65003) (by omega) (by omega)
theorem chk_snoc (n : Int) (l : List UInt8) (c : UInt8) : chk n (l ++ [c]) = (523 * chk n l + (c.toNat : Int) + 17) % 65003 := by
  unfold chk; rw [List.foldl_append]; rfl
theorem take_byte (s : ByteArray) (k : Nat) (h : k < s.size) : s.data.toList.take (k + 1) = s.data.toList.take k ++ [s[k]] := by
  rw [List.take_succ_eq_append_getElem (by simpa using h)]; rfl

end Go.Proofs.YtpfbhckmpkiijaaDoor
