/-
  What a layer makes of numbers, in values. Conditions: none.
-/
import Derived.Test.YtpdgpoonblldgaaRlu
import Derived.Test.YtpdgpoonblldgaaSoft
import Derived.Test.YtpdgpoonblldgaaTanh
import Derived.Test.YtpdgpoonblldgaaRoot
import Derived.Test.YtpdgpoonblldgaaEx32
import Derived.Test.YtpdgpoonblldgaaVLay
namespace Go.Proofs.Ytpdgpoonblldgaa
open Go.RowKit

def denseV (i o : Nat) (ws bs z : List Nat) : List Nat := (List.range o).map fun q => cop .add .f32 (cdot ((ws.drop (q * i)).take i) z) (canon .f32 (bs.getD q 0))
def scaleV (ws z : List Nat) : List Nat := (List.range z.length).map fun q => cop .mul .f32 (canon .f32 (z.getD q 0)) (canon .f32 (ws.getD q 0))
def normA (z : List Nat) : Nat := cop .quo .f32 (csum z) (fN z.length)
def normG (z : List Nat) : List Nat := z.map fun x => cop .sub .f32 (canon .f32 x) (normA z)
def normR (z : List Nat) : Nat := cnarrow (csq (cwide (cop .add .f32 (cop .quo .f32 (cdot (normG z) (normG z)) (fN z.length)) 981467136)))
def normV (ws bs z : List Nat) : List Nat := (List.range z.length).map fun q => cop .add .f32 (cop .mul .f32 (cop .quo .f32 ((normG z).getD q 0) (normR z)) (canon .f32 (ws.getD q 0))) (canon .f32 (bs.getD q 0))
/-- what a layer of a kind makes -/
def runV (k : Int) (i o : Nat) (ws bs z : List Nat) : List Nat :=
  if k = 0 then denseV i o ws bs z else if k = 1 then z.map creluL else if k = 2 then scaleV ws z else if k = 3 then z.map ctanh else if k = 4 then z.map (cShare z) else normV ws bs z
theorem runV_length (k : Int) (i o : Nat) (ws bs z : List Nat) (h : k ≠ 0 → z.length = o) : (runV k i o ws bs z).length = o := by
  unfold runV
  by_cases h0 : k = 0
  · rw [if_pos h0]; simp [denseV]
  · rw [if_neg h0]
    split <;> try split <;> try split <;> try split
    all_goals simp [scaleV, normV, h h0]
theorem cop_mul_comm (x y : Nat) : cop .mul .f32 x y = cop .mul .f32 y x := by unfold cop; rw [mul_comm32]
theorem canon_lt {x : Nat} (h : x < 2 ^ 32) : canon .f32 x < 2 ^ 32 := by
  unfold canon
  split
  · decide
  · exact h
theorem canL (z : List Nat) : (z.map (canon .f32)).map (canon .f32) = z.map (canon .f32) := by simp [List.map_map, Function.comp_def, canon_canon]
theorem getD_can (z : List Nat) (j : Nat) : (z.map (canon .f32)).getD j 0 = canon .f32 (z.getD j 0) := by
  unfold List.getD
  rw [List.getElem?_map]
  cases z[j]? with
  | none => simp [canon_zero]
  | some x => rfl
theorem cdot_can (xs z : List Nat) : cdot xs (z.map (canon .f32)) = cdot xs z := by
  unfold cdot
  rw [List.zip_map_right, List.foldl_map]
  simp only [Prod.map, id, canon_canon]
theorem order_can (x y : Nat) : FloatKind.f32.format.order (canon .f32 x) y = FloatKind.f32.format.order x y := by
  unfold canon
  split
  · rename_i h
    rw [order_isNan_l _ h, order_isNan_l _ (isNan_qnan .f32)]
  · rfl
theorem order_can_r (x y : Nat) : FloatKind.f32.format.order x (canon .f32 y) = FloatKind.f32.format.order x y := by
  unfold canon
  split
  · rename_i h
    rw [order_isNan_r _ h, order_isNan_r _ (isNan_qnan .f32)]
  · rfl
theorem creluL_can (x : Nat) : creluL (canon .f32 x) = creluL x := by unfold creluL; rw [order_can, canon_canon]
theorem ctanh_can (x : Nat) : ctanh (canon .f32 x) = ctanh x := by unfold ctanh; rw [order_can, order_can, canon_canon]
theorem gixF_can (f : Nat → Nat) : ∀ n, gixF (fun j => canon .f32 (f j)) n = gixF f n := by
  intro n
  induction n with
  | zero => rfl
  | succ n ih =>
    simp only [gixF, ih, order_can, order_can_r]
theorem gmax_can (z : List Nat) : gmax (z.map (canon .f32)) = canon .f32 (gmax z) := by
  unfold gmax
  rw [List.length_map, getD_can]
  congr 2
  have h : (fun j => (z.map (canon .f32)).getD j 0) = fun j => canon .f32 (z.getD j 0) := funext fun j => getD_can z j
  rw [h]
  exact gixF_can _ _
theorem cE_can (m x : Nat) : cE (canon .f32 m) (canon .f32 x) = cE m x := by unfold cE; rw [canon_canon, canon_canon]
theorem cShare_can (z : List Nat) (x : Nat) : cShare (z.map (canon .f32)) (canon .f32 x) = cShare z x := by
  unfold cShare cSigma
  rw [gmax_can, cE_can, List.map_map]
  congr 2
  exact List.map_congr_left fun y _ => cE_can _ _
theorem normA_can (z : List Nat) : normA (z.map (canon .f32)) = normA z := by unfold normA; rw [csum_can, List.length_map]
theorem normG_can (z : List Nat) : normG (z.map (canon .f32)) = normG z := by
  unfold normG
  rw [normA_can, List.map_map]
  exact List.map_congr_left fun y _ => by simp [canon_canon]
theorem normR_can (z : List Nat) : normR (z.map (canon .f32)) = normR z := by unfold normR; rw [normG_can, List.length_map]
theorem runV_can (k : Int) (i o : Nat) (ws bs z : List Nat) : runV k i o ws bs (z.map (canon .f32)) = runV k i o ws bs z := by
  have h1 : denseV i o ws bs (z.map (canon .f32)) = denseV i o ws bs z := by unfold denseV; simp only [cdot_can]
  have h2 : (z.map (canon .f32)).map creluL = z.map creluL := by rw [List.map_map]; exact List.map_congr_left fun y _ => creluL_can y
  have h3 : scaleV ws (z.map (canon .f32)) = scaleV ws z := by unfold scaleV; simp only [List.length_map, getD_can, canon_canon]
  have h4 : (z.map (canon .f32)).map ctanh = z.map ctanh := by rw [List.map_map]; exact List.map_congr_left fun y _ => ctanh_can y
  have h5 : (z.map (canon .f32)).map (cShare (z.map (canon .f32))) = z.map (cShare z) := by rw [List.map_map]; exact List.map_congr_left fun y _ => cShare_can z y
  have h6 : normV ws bs (z.map (canon .f32)) = normV ws bs z := by unfold normV; rw [normG_can, normR_can, List.length_map]
  unfold runV
  rw [h1, h2, h3, h4, h5, h6]
theorem runV_eq {k : Int} {i o : Nat} {ws bs z z' : List Nat} (h : z.map (canon .f32) = z'.map (canon .f32)) : runV k i o ws bs z = runV k i o ws bs z' := by rw [← runV_can, h, runV_can]
def vRunLayer (k i o : Int) (ws bs z : List Nat) : Bool × List Nat := if vLay k i o ws.length bs.length = true ∧ (z.length : Int) = i then (true, runV k i.toNat o.toNat ws bs z) else (false, [])
end Go.Proofs.Ytpdgpoonblldgaa
