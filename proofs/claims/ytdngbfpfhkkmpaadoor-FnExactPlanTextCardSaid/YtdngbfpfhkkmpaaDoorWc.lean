/-
  The bytes of numbers: the model's. Conditions: the numbers can be read.
-/
import Derived.Test.YtdngbfpfhkkmpaaDoorWb
import Derived.Test.YtdngbfpfhkkmpaaDoorBits
namespace Go.Proofs.YtdngbfpfhkkmpaaDoor
open Go.RowKit Go.Deep Go.WideShapes Go.ChangeShapes
set_option linter.unusedVariables false

def nb (zs : List Nat) : List UInt8 := zs.flatMap fun z => wb (canon .f32 z) 4
theorem nb_length (zs : List Nat) : (nb zs).length = 4 * zs.length := by
  induction zs with
  | nil => rfl
  | cons z zs ih =>
    simp only [nb, List.flatMap_cons, List.length_append, wb_length, List.length_cons] at ih ⊢
    omega
theorem nb_snoc {zs : List Nat} {k : Nat} {z : Nat} (h : zs[k]? = some z) : nb (zs.take (k + 1)) = nb (zs.take k) ++ wb (canon .f32 z) 4 := by
  unfold nb
  rw [List.take_add_one, h, List.flatMap_append]
  simp
theorem nb_append (a b : List Nat) : nb (a ++ b) = nb a ++ nb b := by simp [nb]
theorem nb_canon (zs : List Nat) : nb (zs.map (canon .f32)) = nb zs := by
  unfold nb
  rw [List.flatMap_map]
  congr 1
  funext z
  rw [canon_canon]
theorem canon_lt32 {x : Nat} (h : x < 4294967296) : canon .f32 x < 4294967296 := by
  cases hn : isNan .f32 x with
  | true => rw [canon_nan hn]; decide
  | false => rw [canon_num hn]; exact h
theorem flt_atW {w : World} {a : Option Addr} {n cap : Nat} {zs : List Nat} (h : IsFloats .f32 w a n cap zs) {i : Nat} (hi : i < n) : ∃ b off x, a = some ⟨b, off, none⟩ ∧ b < w.heap.size ∧ zs[i]? = some x ∧ w.cell? ⟨b, off + i, none⟩ = some (.float .f32 x) ∧ x < 4294967296 := by
  obtain ⟨_, _, h3, h4, h5⟩ := h
  rcases h5 with h0 | ⟨b, off, e, hb, hc⟩
  · omega
  · have hx : zs[i]? = some zs[i] := List.getElem?_eq_getElem (by omega)
    refine ⟨b, off, zs[i], e, hb, hx, ?_, h4 _ (List.getElem_mem _)⟩
    rw [hc i hi, List.getD_eq_getElem?_getD, hx]
    rfl
theorem size_mk (m : List UInt8) : (⟨m.toArray⟩ : ByteArray).size = m.length := by simp [ByteArray.size]
end Go.Proofs.YtdngbfpfhkkmpaaDoor
