/-
  Lists of texts: reading, sizes, copies, comparisons. Conditions: the cells can be read.
-/
import Derived.Test.YtdngbfpfhkkmpaaDoorTen
import Derived.Test.YtdngbfpfhkkmpaaDoorTens
import Derived.SliceStrings
import Derived.BigQuiet
namespace Go.Proofs.YtdngbfpfhkkmpaaDoor
open Go.RowKit Go.Deep Go.WideShapes Go.ChangeShapes
set_option linter.unusedVariables false
set_option linter.unusedSimpArgs false
attribute [local go_sem] World.drewN_zero

def IsStrs (w : World) (a : Option Addr) (n cap : Nat) (ss : List ByteArray) : Prop :=
  ss.length = n ∧ n ≤ cap ∧ cap ≤ maxLen ∧ (∀ s ∈ ss, s.size ≤ maxLen) ∧ (n = 0 ∨ ∃ b off, a = some ⟨b, off, none⟩ ∧ b < w.heap.size ∧ ∀ i x, ss[i]? = some x → w.cell? ⟨b, off + i, none⟩ = some (.string x))
theorem IsStrs.kept {w w' : World} {a : Option Addr} {n cap : Nat} {ss : List ByteArray} (h : IsStrs w a n cap ss) (hb : Below w.heap.size w w') : IsStrs w' a n cap ss := by
  obtain ⟨h1, h2, h3, h4, h5⟩ := h
  refine ⟨h1, h2, h3, h4, ?_⟩
  rcases h5 with h0 | ⟨b, off, e, hlt, hc⟩
  · exact .inl h0
  · exact .inr ⟨b, off, e, Nat.lt_of_lt_of_le hlt hb.size, fun i x hx => by rw [hb.cell (p := ⟨b, off + i, none⟩) hlt]; exact hc i x hx⟩
theorem IsStrs.one {w : World} {a : Option Addr} {n cap : Nat} {ss : List ByteArray} (h : IsStrs w a n cap ss) {i : Nat} (hi : i < n) :
    ∃ (b off : Nat) (x : ByteArray), a = some ⟨b, off, none⟩ ∧ b < w.heap.size ∧ ss[i]? = some x ∧ w.cell? ⟨b, off + i, none⟩ = some (.string x) ∧ x.size ≤ maxLen := by
  obtain ⟨h1, h2, h3, h4, h5⟩ := h
  have hx : ss[i]? = some ss[i] := List.getElem?_eq_getElem (by omega)
  rcases h5 with h0 | ⟨b, off, e, hlt, hc⟩
  · omega
  · exact ⟨b, off, _, e, hlt, hx, hc i _ hx, h4 _ (List.getElem_mem _)⟩
section
variable {H : Type} {enc : TypeId × Value → H} {P : Program} {w : World} {base : Nat} {held : Bool}
theorem strs_of {t e : TypeId} {a : Option Addr} {len cap : Nat} {d : DataW H} {ps : List MemPlace} (ht : P.underlying t = some (.slice e)) (he : P.underlying e = some .string) (hc : P.cellsOf e = 1)
    (h : DataW.Trod enc P w base (fun _ => true) held t (.slice a len cap) d ps) : ∃ ss, IsStrs w a len cap ss := by
  obtain ⟨fuel, hf⟩ := h
  rcases open_strings ht he hc hf with ⟨hcs, _⟩ | ⟨x, l, c, ss, hcs, _, hl, hm, hz, _, hcell, hsz⟩
  · simp [Value.cells] at hcs
    obtain ⟨rfl, rfl, rfl⟩ := hcs
    exact ⟨[], rfl, Nat.le_refl _, Nat.zero_le _, fun s hs => (by cases hs), .inl rfl⟩
  · simp [Value.cells] at hcs
    obtain ⟨rfl, rfl, rfl⟩ := hcs
    simp only [if_true] at hz
    refine ⟨ss.take len, by rw [List.length_take]; omega, hl, hm, fun s hs => hsz s (List.mem_of_mem_take hs), ?_⟩
    by_cases h0 : len = 0
    · exact .inl h0
    · right
      obtain ⟨b, off, spot⟩ := x
      have c0 := hcell 0 (by omega)
      have hspot : spot = none := by simpa [Addr.add] using World.cell?_spot c0
      subst hspot
      refine ⟨b, off, rfl, cell_block c0, fun i x hx => ?_⟩
      have hi : i < len := by have := (List.getElem?_eq_some_iff.1 hx).1; rw [List.length_take] at this; omega
      have ci := hcell i (by omega)
      rw [add_plain] at ci
      rw [ci]
      rw [List.getElem?_take_of_lt hi] at hx
      rw [List.getD_eq_getElem?_getD, hx]
      rfl
end
def cntStr (ss : List ByteArray) : Nat := (ss.map ByteArray.size).sum
theorem cntStr_take {ss : List ByteArray} {i : Nat} {x : ByteArray} (h : ss[i]? = some x) : cntStr (ss.take (i + 1)) = cntStr (ss.take i) + x.size := by
  unfold cntStr
  rw [List.take_add_one, h, List.map_append, List.sum_append]
  simp
theorem cntStr_le (ss : List ByteArray) (k : Nat) : cntStr (ss.take k) ≤ cntStr ss := by
  have h := List.take_append_drop k ss
  have : cntStr ss = cntStr (ss.take k) + cntStr (ss.drop k) := by
    unfold cntStr
    rw [← List.sum_append, ← List.map_append, h]
  omega
def copyS (ss : List ByteArray) (k n : Nat) : List Value := (ss.take k).map Value.string ++ List.replicate (n - k) (Value.string ByteArray.empty)
theorem copyS_set {ss : List ByteArray} {k n : Nat} {x : ByteArray} (hn : ss.length = n) (hk : ss[k]? = some x) : (copyS ss k n).set k (.string x) = copyS ss (k + 1) n := by
  have hk' : k < ss.length := (List.getElem?_eq_some_iff.1 hk).1
  unfold copyS
  have hl : ((ss.take k).map Value.string).length = k := by simp; omega
  rw [List.set_append_right _ _ (by omega), hl, Nat.sub_self, List.take_add_one, hk]
  obtain ⟨m, hm⟩ : ∃ m, n - k = m + 1 := ⟨n - k - 1, by omega⟩
  rw [hm, List.replicate_succ, List.set_cons_zero, show n - (k + 1) = m by omega]
  simp
end Go.Proofs.YtdngbfpfhkkmpaaDoor
