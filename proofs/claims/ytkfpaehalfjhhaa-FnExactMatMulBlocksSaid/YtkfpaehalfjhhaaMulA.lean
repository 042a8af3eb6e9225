/-
  Products of tensors as the program makes them, by a function that is handed over. Conditions: the numbers can be read.
-/
import Derived.Test.YtkfpaehalfjhhaaLists
import Derived.Test.YtkfpaehalfjhhaaTakeCol
import Derived.Test.YtkfpaehalfjhhaaLike
import Derived.Test.YtkfpaehalfjhhaaEqf
import Derived.Deep.RegionHeld3
namespace Go.Proofs.Ytkfpaehalfjhhaa
open Go.RowKit Go.Deep Go.WideShapes Go.ChangeShapes

def rowL (z : List Nat) (C i : Nat) : List Nat := (z.drop (i * C)).take C
theorem rowL_length {z : List Nat} {R C i : Nat} (hn : z.length = R * C) (hi : i < R) : (rowL z C i).length = C := by
  have e1 : (i + 1) * C ≤ R * C := Nat.mul_le_mul_right C hi
  have e2 : (i + 1) * C = i * C + C := by rw [Nat.add_mul, Nat.one_mul]
  unfold rowL
  simp; omega
theorem rowL_getD {z : List Nat} {C i k : Nat} (hk : k < C) : (rowL z C i).getD k 0 = z.getD (i * C + k) 0 := by
  unfold rowL
  simp [List.getD, hk]
/-- number p of a product -/
def mulF (dotv : List Nat → List Nat → Nat) (za zb : List Nat) (M K p : Nat) : Nat := dotv (rowL za M (p / K)) (colL zb M K (p % K))
theorem mulF_at {dotv : List Nat → List Nat → Nat} {za zb : List Nat} {M K i k : Nat} (hk : k < K) : mulF dotv za zb M K (i * K + k) = dotv (rowL za M i) (colL zb M K k) := by
  unfold mulF
  have h1 : (i * K + k) % K = k := by rw [Nat.mul_comm, Nat.mul_add_mod, Nat.mod_eq_of_lt hk]
  have h2 : (i * K + k) / K = i := by rw [Nat.mul_comm, Nat.mul_add_div (by omega), Nat.div_eq_of_lt hk, Nat.add_zero]
  rw [h1, h2]
def mulRow (dotv : List Nat → List Nat → Nat) (za zb : List Nat) (M K i : Nat) : List Nat := (List.range K).map fun k => dotv (rowL za M i) (colL zb M K k)
theorem mul_flat (dotv : List Nat → List Nat → Nat) (za zb : List Nat) (M K n : Nat) : (List.range n).flatMap (mulRow dotv za zb M K) = (List.range (n * K)).map (mulF dotv za zb M K) := by
  induction n with
  | zero => simp
  | succ n ih =>
    rw [List.range_succ, List.flatMap_append, ih, Nat.add_mul, Nat.one_mul, List.range_add, List.map_append]
    congr 1
    simp only [List.flatMap_cons, List.flatMap_nil, List.append_nil]
    rw [List.map_map]
    unfold mulRow
    refine List.map_congr_left fun k hk => ?_
    exact (mulF_at (List.mem_range.1 hk)).symm
def fitB (r c r' c' : Int) (n n' : Nat) : Bool := ((vokB r c n && vokB r' c' n') && (c == r'))
def vMul (dotv : List Nat → List Nat → Nat) (r c : Int) (za : List Nat) (r' c' : Int) (zb : List Nat) : Int × Int × Bool × List Nat :=
  if fitB r c r' c' za.length zb.length = true then (r, c', true, (List.range (r.toNat * c'.toNat)).map (mulF dotv za zb c.toNat c'.toNat)) else (0, 0, false, [])
theorem vMul_no {dotv : List Nat → List Nat → Nat} {r c r' c' : Int} {za zb : List Nat} (h : fitB r c r' c' za.length zb.length = false) : vMul dotv r c za r' c' zb = (0, 0, false, []) := by unfold vMul; rw [if_neg (by rw [h]; decide)]
theorem vMul_yes {dotv : List Nat → List Nat → Nat} {R M K : Nat} {za zb : List Nat} (h : fitB R M M K za.length zb.length = true) : vMul dotv R M za M K zb = ((R : Int), (K : Int), true, (List.range (R * K)).map (mulF dotv za zb M K)) := by unfold vMul; rw [if_pos h]; simp
theorem fit_nat {r c r' c' : Int} {n n' : Nat} (h : fitB r c r' c' n n' = true) : ∃ R M K : Nat, r = R ∧ c = M ∧ r' = M ∧ c' = K ∧ 1 ≤ R ∧ R ≤ 16 ∧ 1 ≤ M ∧ M ≤ 16 ∧ 1 ≤ K ∧ K ≤ 16 ∧ n = R * M ∧ n' = M * K := by
  simp only [fitB, Bool.and_eq_true, beq_iff_eq] at h
  obtain ⟨⟨h1, h2⟩, h3⟩ := h
  obtain ⟨R, C, rfl, rfl, a1, a2, a3, a4, a5⟩ := vok_nat h1
  obtain ⟨R', C', rfl, rfl, b1, b2, b3, b4, b5⟩ := vok_nat h2
  have : C = R' := by omega
  subst this
  exact ⟨R, C, C', rfl, rfl, rfl, rfl, a1, a2, a3, a4, b3, b4, a5, b5⟩
theorem vMul_len (dotv : List Nat → List Nat → Nat) (r c : Int) (za : List Nat) (r' c' : Int) (zb : List Nat) : (vMul dotv r c za r' c' zb).2.2.2.length ≤ 1048576 := by
  cases h : fitB r c r' c' za.length zb.length with
  | false => rw [vMul_no h]; simp
  | true =>
    obtain ⟨R, M, K, rfl, rfl, rfl, rfl, h1, h2, h3, h4, h5, h6, h7, h8⟩ := fit_nat h
    rw [vMul_yes h]
    have := Nat.mul_le_mul h2 h6
    simp; omega
/-- what is asked of a function that multiplies a row and a column -/
def DotOk (D : FuncId) (caps : Array Value) (dotv : List Nat → List Nat → Nat) (w : World) : Prop :=
  (∀ (xs : Array Value) (wr : World), (callFunc D xs).run Try.prog wr = .ok (.enter D xs) wr) ∧
  ∀ (xs ys : List Nat) (a b : Option Addr) (ca cb n : Nat) (wr : World), n ≤ 16 → 1 ≤ n → IsFloats .f32 wr a n ca xs → IsFloats .f32 wr b n cb ys → Below w.heap.size w wr → Calls Try.prog D (#[.slice a n ca, .slice b n cb] ++ caps) wr (RetX (dotv xs ys) wr)
theorem DotOk.later {D : FuncId} {caps : Array Value} {dotv : List Nat → List Nat → Nat} {w w' : World} (h : DotOk D caps dotv w) (hb : Below w.heap.size w w') : DotOk D caps dotv w' :=
  ⟨h.1, fun xs ys a b ca cb n wr h1 h2 h3 h4 h5 => h.2 xs ys a b ca cb n wr h1 h2 h3 h4 (Below.next hb h5)⟩
end Go.Proofs.Ytkfpaehalfjhhaa
