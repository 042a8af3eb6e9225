/-
  Texts of lists: the program over any way to write an item. Conditions: the items can be read, each item's text is short.
-/
import Derived.Test.YtdngbfpfhkkmpaaDoorBld
import Derived.Test.YtdngbfpfhkkmpaaDoorDcm
import Derived.Test.YtdngbfpfhkkmpaaDoorWc
import Derived.Test.YtdngbfpfhkkmpaaDoorAll
namespace Go.Proofs.YtdngbfpfhkkmpaaDoor
open Go.RowKit Go.Deep Go.WideShapes Go.ChangeShapes
set_option linter.unusedVariables false
set_option linter.unusedSimpArgs false

theorem txt_append (a b : List UInt8) : ((⟨a.toArray⟩ : ByteArray) ++ ⟨b.toArray⟩) = ⟨(a ++ b).toArray⟩ := by
  apply ByteArray.ext
  simp
theorem txt_size (m : List UInt8) : (⟨m.toArray⟩ : ByteArray).size = m.length := by simp [ByteArray.size]
/-- the texts of items with a comma between two of them -/
def jn (ts : List (List UInt8)) : List UInt8 := (ts.flatMap fun t => 44 :: t).drop 1
def noneT : List UInt8 := [110, 111, 110, 101]
def txt (ts : List (List UInt8)) : List UInt8 := if ts.length = 0 then noneT else jn ts
theorem jn_one (t : List UInt8) : jn [t] = t := by simp [jn]
theorem jn_snoc {ts : List (List UInt8)} (t : List UInt8) (h : ts.length ≠ 0) : jn (ts ++ [t]) = (jn ts ++ [44]) ++ t := by
  unfold jn
  rw [List.flatMap_append]
  cases ts with
  | nil => exact absurd rfl h
  | cons x r => simp
theorem jn_len {ts : List (List UInt8)} {M : Nat} (h : ∀ t ∈ ts, t.length ≤ M) : (jn ts).length ≤ ts.length * (M + 1) := by
  unfold jn
  rw [List.length_drop]
  have : (ts.flatMap fun t => 44 :: t).length ≤ ts.length * (M + 1) := by
    induction ts with
    | nil => simp
    | cons x r ih =>
      have h1 := h x (List.mem_cons_self ..)
      have h2 := ih fun t ht => h t (List.mem_cons_of_mem _ ht)
      rw [List.flatMap_cons, List.length_append, List.length_cons, List.length_cons, Nat.succ_mul]
      omega
  omega
theorem map_take_succ {α β : Type} {f : α → β} {zs : List α} {k : Nat} {x : α} (h : zs[k]? = some x) : (zs.take (k + 1)).map f = (zs.take k).map f ++ [f x] := by
  rw [List.take_add_one, h, List.map_append]
  rfl
theorem jn_next {α : Type} {f : α → List UInt8} {zs : List α} {k : Nat} {x : α} (h : zs[k]? = some x) (h0 : k ≠ 0) : jn ((zs.take (k + 1)).map f) = (jn ((zs.take k).map f) ++ [44]) ++ f x := by
  have hk : k < zs.length := (List.getElem?_eq_some_iff.1 h).1
  rw [map_take_succ h, jn_snoc _ (by rw [List.length_map, List.length_take]; omega)]
theorem jn_first {α : Type} {f : α → List UInt8} {zs : List α} {x : α} (h : zs[0]? = some x) : jn ((zs.take 1).map f) = f x := by
  rw [map_take_succ h, List.take_zero, List.map_nil, List.nil_append, jn_one]
theorem jn_take {α : Type} {f : α → List UInt8} {zs : List α} {k M : Nat} (h : ∀ z ∈ zs, (f z).length ≤ M) (hk : k ≤ zs.length) : (jn ((zs.take k).map f)).length ≤ k * (M + 1) := by
  have := jn_len (ts := (zs.take k).map f) (M := M) (fun t ht => by
    obtain ⟨z, hz, rfl⟩ := List.mem_map.1 ht
    exact h z (List.mem_of_mem_take hz))
  rw [List.length_map, List.length_take, Nat.min_eq_left hk] at this
  exact this
theorem int_atW {w : World} {a : Option Addr} {n cap : Nat} {zs : List Int} (h : IsRow .i64 w a n cap zs) {i : Nat} (hi : i < n) : ∃ b off x, a = some ⟨b, off, none⟩ ∧ b < w.heap.size ∧ zs[i]? = some x ∧ w.cell? ⟨b, off + i, none⟩ = some (.int .i64 x) ∧ (Lit.int .i64 x).wf = true := by
  obtain ⟨_, _, h3, h4, h5⟩ := h
  rcases h5 with h0 | ⟨b, off, e, hb, hc⟩
  · omega
  · have hx : zs[i]? = some zs[i] := List.getElem?_eq_getElem (by omega)
    refine ⟨b, off, zs[i], e, hb, hx, ?_, h4 _ (List.getElem_mem _)⟩
    rw [hc i hi, List.getD_eq_getElem?_getD, hx]
    rfl
end Go.Proofs.YtdngbfpfhkkmpaaDoor
