/-
  A valid plan has few steps, each of a kind that has a name, and short texts. Conditions: none.
-/
import Derived.Test.YtdngbfpfhkkmpaaDoorPtw
namespace Go.Proofs.YtdngbfpfhkkmpaaDoor
open Go.RowKit
set_option linter.unusedVariables false
set_option linter.unusedSimpArgs false

theorem okUp_one {ps : List LayP} : ∀ {n j : Nat}, okUp ps n = true → j < n → testAt ps j = true := by
  intro n
  induction n with
  | zero => intro j _ hj; omega
  | succ n ih =>
    intro j h hj
    simp only [okUp, Bool.and_eq_true] at h
    by_cases hn : j < n
    · exact ih h.1 hn
    · obtain rfl : j = n := by omega
      exact h.2
theorem testAt_one {ps : List LayP} {j : Nat} {p : LayP} (h : testAt ps j = true) (hp : ps[j]? = some p) : vOne p = true := by
  cases hv : vOne p with
  | true => rfl
  | false => rw [testAt_no hp hv] at h; cases h
theorem vPln_few {ps : List PstP} (h : vPln ps = true) : ps.length ≤ 6 := by
  unfold vPln vMod at h
  simp only [List.length_map, Bool.or_eq_true, Bool.and_eq_true, decide_eq_true_eq] at h
  omega
theorem vPln_one {ps : List PstP} (h : vPln ps = true) {p : PstP} (hp : p ∈ ps) : vOne p.lay = true := by
  obtain ⟨j, hj⟩ := List.mem_iff_getElem?.1 hp
  have hl : j < ps.length := (List.getElem?_eq_some_iff.1 hj).1
  unfold vPln vMod at h
  simp only [List.length_map, Bool.or_eq_true, Bool.and_eq_true, decide_eq_true_eq] at h
  rcases h with h | h
  · omega
  · exact testAt_one (okUp_one h.1.2 hl) (by simp [hj])
theorem stepT_len (p : PstP) (h : stepOk p) : (stepT p).length ≤ 100 := by
  unfold stepT
  have h1 := kName_len p.kd.toNat
  have h2 := Lib.itoa_length_le p.ii h.2.1.1 h.2.1.2
  have h3 := Lib.itoa_length_le p.oo h.2.2.1 h.2.2.2
  simp only [List.length_append, List.length_cons, List.length_nil]
  have h4 : (if p.ss.length = 0 then ([] : List UInt8) else [42]).length ≤ 1 := by split <;> simp
  have h5 : (if p.rl = true then ([43] : List UInt8) else []).length ≤ 1 := by split <;> simp
  omega
theorem vOne_ok {p : PstP} (h : vOne p.lay = true) : stepOk p := by
  unfold vOne at h
  rw [vLay_iff] at h
  obtain ⟨h1, h2, h3, _⟩ := h
  have a : p.lay.k = p.kd := rfl
  have b : p.lay.i = p.ii := rfl
  have c : p.lay.o = p.oo := rfl
  rw [a] at h1; rw [b] at h2; rw [c] at h3
  exact ⟨h1, by omega, by omega⟩
theorem pln_short (y : List PstA) (n : Nat) (hn : y.length = n) (h : vPln (y.map PstA.p) = true) : n ≤ 6 ∧ ∀ x ∈ y, stepOk x.p ∧ (stepT x.p).length ≤ 100 := by
  have h1 := vPln_few h
  rw [List.length_map, hn] at h1
  refine ⟨h1, fun x hx => ?_⟩
  have h2 := vOne_ok (vPln_one h (List.mem_map.2 ⟨x, hx, rfl⟩))
  exact ⟨h2, stepT_len _ h2⟩
end Go.Proofs.YtdngbfpfhkkmpaaDoor
