/-
  Numerals: the model's. Conditions: the integer is one of 64 bits.
-/
import Derived.Test.YtpfbhckmpkiijaaDoorWb
import Derived.Lib.ItoaLen
namespace Go.Proofs.YtpfbhckmpkiijaaDoor
open Go.RowKit Go.Deep Go.WideShapes Go.ChangeShapes
set_option linter.unusedVariables false

theorem i64_bounds {a : Int} (h : (Lit.int .i64 a).wf = true) : -9223372036854775808 ≤ a ∧ a ≤ 9223372036854775807 := by
  simp [Lit.wf, IntKind.min, IntKind.max, IntKind.signed, IntKind.bits] at h
  omega
/-- the digits of a number that is not 0, none for 0 -/
def dz (u : Nat) : List UInt8 := if u = 0 then [] else Lib.decDigits u
theorem dec_step (u : Nat) : Lib.decDigits u = dz (u / 10) ++ [UInt8.ofNat (48 + u % 10)] := by
  unfold dz
  by_cases h : u < 10
  · rw [Lib.decDigits, dif_pos h, if_pos (by omega), Nat.mod_eq_of_lt h, List.nil_append]
  · rw [if_neg (by omega)]
    exact (Lib.decDigits.eq_1 u).trans (dif_neg h)
theorem dz_pos {u : Nat} (h : u ≠ 0) : dz u = Lib.decDigits u := if_neg h
theorem dz_zero : dz 0 = [] := rfl
theorem digit_toNat (u : Nat) : (UInt8.ofNat (48 + u % 10)).toNat = 48 + u % 10 := by
  rw [UInt8.toNat_ofNat']
  omega
theorem decDigits_le (u : Nat) (h : u ≤ 9223372036854775808) : (Lib.decDigits u).length ≤ 20 := by
  rw [Lib.decDigits_length]
  exact Lib.nDigits_le20 u (by omega)
theorem bytes_one (l : List UInt8) : ∀ u ∈ Lib.byteCells l, u.oneCell' = true := by
  intro u hu
  simp only [Lib.byteCells, List.mem_map] at hu
  obtain ⟨x, _, rfl⟩ := hu
  rfl
/-- a byte ahead of a list of bytes: the new list -/
theorem ahead_next {B n : Nat} {w wr w' : World} {a' : Option Addr} {cp' : Nat} {v : Int} {c : UInt8} {l : List UInt8} (hn : l.length = n) (hB : w.heap.size ≤ B) (hw : B ≤ wr.heap.size) (hl : Below w.heap.size w wr) (hv : v = (c.toNat : Int))
    (hown : w'.ownsRow B 5 1 (.slice a' (1 + n) cp') (1 + n) ([.int .u8 v] ++ Lib.byteCells l)) (hg : (wr.alloc (.cells #[.int .u8 v] 5)).grownBy w' (some wr.heap.size)) :
    OwnB w' B a' cp' (c :: l) ∧ Below w.heap.size w w' := by
  have bw : Below wr.heap.size wr (wr.alloc (.cells #[.int .u8 v] 5)) := (Below.refl _ _).alloc (Nat.le_refl _) _
  subst hv
  subst hn
  refine ⟨?_, (hl.trans (bw.mono hl.size)).grown hg (Nat.le_trans hl.size bw.size) (fun g h => by injection h with h; subst h; exact hl.size)⟩
  unfold OwnB
  rw [List.length_cons, Nat.add_comm]
  exact hown
theorem own_one (w : World) (base : Nat) (v : Int) (hb : base ≤ w.heap.size) : (w.alloc (.cells #[.int .u8 v] 5)).ownsRow base 5 1 (.slice (some ⟨w.heap.size, 0, none⟩) 1 1) 1 [.int .u8 v] :=
  ⟨by simp, .inr ⟨w.heap.size, 1, _, rfl, hb, heap_alloc_new w _, Nat.le_refl _, by unfold maxLen; omega, rfl, by simp⟩⟩
def lenV : Value → Nat
  | .slice _ n _ => n
  | _ => 0
def decM (s r : Value) : Nat := (intOf r).natAbs + (if lenV s = 0 then 1 else 0)
theorem itoa_of {n : Int} : Lib.itoa n = if n < 0 then 45 :: Lib.decDigits n.natAbs else Lib.decDigits n.natAbs := by
  unfold Lib.itoa
  split
  · rfl
  · rw [show n.toNat = n.natAbs by omega]
theorem dec_round {n q : Int} {out : List UInt8} (h : (out.length = 0 ∧ q = n) ∨ (out.length ≠ 0 ∧ dz q.natAbs ++ out = Lib.decDigits n.natAbs)) (hne : out.length = 0 ∨ q ≠ 0) :
    dz (q.natAbs / 10) ++ (UInt8.ofNat (48 + q.natAbs % 10) :: out) = Lib.decDigits n.natAbs := by
  rcases h with ⟨h0, rfl⟩ | ⟨h0, he⟩
  · obtain rfl := List.eq_nil_of_length_eq_zero h0
    rw [dec_step q.natAbs]
  · have hq : q ≠ 0 := by rcases hne with h | h; · exact absurd h h0
                          · exact h
    have hqn : q.natAbs ≠ 0 := fun h => hq (by omega)
    rw [← he, dz_pos hqn, dec_step q.natAbs, List.append_assoc]
    rfl
theorem dec_len {n q : Int} {out : List UInt8} (h : (out.length = 0 ∧ q = n) ∨ (out.length ≠ 0 ∧ dz q.natAbs ++ out = Lib.decDigits n.natAbs)) (h0 : -9223372036854775808 ≤ n) (h1 : n ≤ 9223372036854775807) : out.length ≤ 20 := by
  rcases h with ⟨h0, _⟩ | ⟨_, he⟩
  · omega
  · have := decDigits_le n.natAbs (by omega)
    rw [← he, List.length_append] at this
    omega
end Go.Proofs.YtpfbhckmpkiijaaDoor
