/-
  Rows of a tensor, as the program and its model take them. Conditions: the tensor's numbers can be read.
-/
import Derived.Test.YtpfbhckmpkiijaaDoorApp
import Derived.IntWalk
namespace Go.Proofs.YtpfbhckmpkiijaaDoor
open Go.RowKit Go.Deep Go.WideShapes Go.ChangeShapes

def RetRow (zs : List Nat) (w : World) (e : Ending) (w' : World) : Prop := ∃ b c, e = .returned (.slice b zs.length c) ∧ OwnF w' w.heap.size b c zs ∧ Below w.heap.size w w'
theorem cut_at (a : Option Addr) (k n : Nat) (h : k < n) : ∀ cap, n ≤ cap → (if cap = k then a else a.map (·.add k)) = a.map (·.add k) := by
  intro cap hc
  rw [if_neg (by omega)]


set_option linter.unusedVariables false in
/-- of a row from bounds -/
theorem row_facts {R C A n cap : Nat} (hR : R ≤ 16) (hC0 : 1 ≤ C) (hC : C ≤ 16) (hA : A < R) (hn : n = R * C) : A * C + C ≤ n ∧ n ≤ 256 ∧ (A : Int) * (C : Int) = ((A * C : Nat) : Int) ∧ ((A : Int) + 1) * (C : Int) = ((A * C + C : Nat) : Int) := by
  have e1 : (A + 1) * C ≤ R * C := Nat.mul_le_mul_right C hA
  have e2 : (A + 1) * C = A * C + C := by rw [Nat.add_mul, Nat.one_mul]
  have e3 : R * C ≤ 16 * 16 := Nat.mul_le_mul hR hC
  refine ⟨by omega, by omega, (Int.natCast_mul A C).symm, ?_⟩
  rw [Int.add_mul, Int.one_mul, ← Int.natCast_mul]
  omega
theorem vok_nat {r c : Int} {n : Nat} (h : vokB r c n = true) : ∃ R C : Nat, r = R ∧ c = C ∧ 1 ≤ R ∧ R ≤ 16 ∧ 1 ≤ C ∧ C ≤ 16 ∧ n = R * C := by
  obtain ⟨⟨h1, h2⟩, ⟨h3, h4⟩, h5⟩ := (vokB_iff r c n).1 h
  refine ⟨r.toNat, c.toNat, by omega, by omega, by omega, by omega, by omega, by omega, ?_⟩
  have e1 : r = (r.toNat : Int) := by omega
  have e2 : c = (c.toNat : Int) := by omega
  rw [e1, e2, ← Int.natCast_mul] at h5
  omega
theorem nil_own (w : World) (B : Nat) : OwnF w B none 0 [] := ⟨World.ownsRow_nil _ _ _ _, fun _ h => by cases h⟩

/-! RowOf -/
def vRowOf (r c : Int) (z : List Nat) (a : Int) : Bool × List Nat := if (vokB r c z.length && (decide (0 ≤ a) && decide (a ≤ r - 1))) = true then (true, ((z.drop (a.toNat * c.toNat)).take c.toNat).map (canon .f32)) else (false, [])
theorem vRowOf_len (r c : Int) (z : List Nat) (a : Int) : (vRowOf r c z a).2.length ≤ 1048576 := by
  unfold vRowOf
  split
  · rename_i h
    simp only [Bool.and_eq_true] at h
    obtain ⟨R, C, rfl, rfl, h1, h2, h3, h4, h5⟩ := vok_nat h.1
    simp; omega
  · simp
theorem vRowOf_no {r c : Int} {z : List Nat} {a : Int} (h : (vokB r c z.length && (decide (0 ≤ a) && decide (a ≤ r - 1))) = false) : vRowOf r c z a = (false, []) := by unfold vRowOf; rw [if_neg (by rw [h]; decide)]
theorem vRowOf_yes {R C A : Nat} {z zr : List Nat} (h : vokB R C z.length = true) (hA : A < R) (hz : (z.drop (A * C)).take C = zr) : vRowOf R C z A = (true, zr.map (canon .f32)) := by subst hz; unfold vRowOf; rw [if_pos (by rw [h]; simp; omega)]; simp
end Go.Proofs.YtpfbhckmpkiijaaDoor
