/-
  A new state: its empty slots and the model side. Conditions: the cells can be read.
-/
import Derived.Test.YtaipegkkpkagnaaESl
import Derived.Test.YtaipegkkpkagnaaVtr
import Derived.Test.YtaipegkkpkagnaaWith
namespace Go.Proofs.Ytaipegkkpkagnaa
open Go.RowKit Go.Deep Go.WideShapes Go.ChangeShapes Go.Maps
set_option linter.unusedVariables false


attribute [local go_sem] World.drewN_zero

theorem withP_self (ps : List LayP) : withP ps (parOf ps) = ps := by
  induction ps with
  | nil => rfl
  | cons p ps ih =>
    have e : parOf (p :: ps) = p.ws ++ (p.bs ++ parOf ps) := by simp [parOf]
    simp only [withP, e, List.take_left', List.drop_left', List.drop_append]
    simp only [List.drop_length, Nat.sub_self, List.drop_zero, List.nil_append, show p.ws.length + p.bs.length - p.ws.length = p.bs.length by omega, List.drop_eq_nil_of_le (show p.ws.length ≤ p.ws.length + p.bs.length by omega), ih]
theorem OwnL.upg {w w' : World} {B g : Nat} {l : List Cl} (h : OwnL w B l) (hg : w.grownBy w' (some g)) (hne : ∀ q ∈ blL l, q ≠ g) : OwnL w' B l := by
  refine OwnL.apart (GrownIn.of_grown (a := some ⟨g, 0, none⟩) hg) _ h (fun q hq hs => ?_)
  simp [blk] at hs
  exact hne q hq hs
theorem storet_1 {w : World} {g : Nat} {t : TypeId} {x0 x1 x2 x3 x4 y1 : Value} (h : Blk w g t #[x0, x1, x2, x3, x4]) :
    Blk (w.setCell ⟨g, 1, none⟩ y1) g t #[x0, y1, x2, x3, x4] ∧ w.grownBy (w.setCell ⟨g, 1, none⟩ y1) (some g) := by
  constructor
  · unfold Blk at h ⊢
    simp [World.setCell, Array.getElem?_modify, h]
  · exact ⟨rfl, rfl, rfl, by simp, fun k _ hk => Below.heap_setCell w ⟨g, 1, none⟩ y1 k (fun e => hk (by simp [e]))⟩
/-- a state and ok -/
def RetNt (ok : Bool) (ps : List LayP) (zs : List (List Nat)) (sd : Int) (sc : Nat) (w : World) (e : Ending) (w' : World) : Prop :=
  ∃ q : TrsA, e = .returned (.tuple #[.agg q.cells, .bool ok]) ∧ q.ls.map (fun x => x.p.can) = ps ∧ q.ss.map (fun x => x.z.map (canon .f32)) = zs ∧ q.st = 0 ∧ q.sd = sd ∧ q.sc = sc ∧ TrsOwn w' w.heap.size q ∧ q.bl.Nodup ∧ Below w.heap.size w w'
theorem retNt_no {w w' : World} (h : Below w.heap.size w w') : RetNt false [] [] 0 0 w (.returned (.tuple #[.agg #[.slice none 0 0, .slice none 0 0, .int .i64 0, .int .i64 0, .float .f32 0], .bool false])) w' :=
  ⟨⟨none, 0, [], none, 0, [], 0, 0, 0⟩, rfl, rfl, rfl, rfl, rfl, rfl, ⟨by simp [lsC, slC, OwnL, Cl.Own, laysC, ssC, vs, World.ownsRow_nil], by decide⟩, by simp [TrsA.bl, lsC, slC, blL, Cl.bl, laysC, ssC, blk], h⟩
def okNew (k : Int) (ps : List LayP) (sd : Int) : Bool := isKind k && (vMod ps && (isSeedV sd && decide (laySum ps ≤ 256)))
def zeros (k : Int) (ps : List LayP) : List (List Nat) := List.replicate (slotsOf k) (List.replicate (laySum ps) 0)
def oneF : Nat := 1065353216
theorem fit_zeros {k : Int} {ys : List FlA} {N : Nat} (hl : ys.length = slotsOf k) (hz : allZero N ys) : fitS k ys (N : Int) = true := by
  unfold fitS
  rw [hl]
  simp only [beq_self_eq_true, Bool.true_and, List.all_eq_true]
  intro x hx
  simp only [lenB, hz x hx, List.length_replicate, beq_self_eq_true]
end Go.Proofs.Ytaipegkkpkagnaa
