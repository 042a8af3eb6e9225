/-
  Which plans are valid, in values; a step's layer and what stands behind it, on both sides. Conditions: the cells can be read.
-/
import Derived.Test.YtdngbfpfhkkmpaaDoorVMod
import Derived.Test.YtdngbfpfhkkmpaaDoorPln
namespace Go.Proofs.YtdngbfpfhkkmpaaDoor
open Go.RowKit
set_option linter.unusedVariables false
set_option linter.unusedSimpArgs false

def PstP.lay (p : PstP) : LayP := ⟨p.kd, p.ii, p.oo, p.ws, p.bs⟩
def PstA.lay (x : PstA) : LayA := ⟨x.p.lay, x.a0, x.c0, x.a1, x.c1⟩
/-- scales and Relu as they may be -/
def pEndB (k o : Int) (s : Nat) (rl : Bool) : Bool := if rl then (decide (k = 0) && decide (s = 0)) else (decide (s = 0) || (decide (k = 0) && decide ((s : Int) = o)))
def pEnd (p : PstP) : Bool := pEndB p.kd p.oo p.ss.length p.rl
def vStep (p : PstP) : Bool := vOne p.lay && pEnd p
def vPln (ps : List PstP) : Bool := decide (ps.length = 0) || (vMod (ps.map PstP.lay) && ps.all pEnd)
theorem lay_map (ls : List PstA) : (ls.map PstA.lay).map LayA.p = (ls.map PstA.p).map PstP.lay := by simp [PstA.lay]
theorem vPln_no {ps : List PstP} {j : Nat} (h : testAt (ps.map PstP.lay) j = false) (hj : j < ps.length) : vPln ps = false := by
  unfold vPln
  rw [vMod_no h (by simpa using hj)]
  simp only [Bool.false_and, Bool.or_false, decide_eq_false_iff_not]
  omega
theorem vPln_end {ps : List PstP} {j : Nat} {p : PstP} (h : ps[j]? = some p) (he : pEnd p = false) : vPln ps = false := by
  have hl : j < ps.length := (List.getElem?_eq_some_iff.1 h).1
  have : ps.all pEnd = false := by
    rw [List.all_eq_false]
    exact ⟨p, List.mem_of_getElem? h, by simp [he]⟩
  unfold vPln
  rw [this]
  simp only [Bool.and_false, Bool.or_false, decide_eq_false_iff_not]
  omega
theorem all_next {ps : List PstP} {j : Nat} {p : PstP} (h : ps[j]? = some p) (hp : (ps.take j).all pEnd = true) (he : pEnd p = true) : (ps.take (j + 1)).all pEnd = true := by
  rw [List.take_add_one, h, List.all_append, hp]
  simp [he]
theorem vPln_done {ps : List PstP} (h : okUp (ps.map PstP.lay) ps.length = true) (he : (ps.take ps.length).all pEnd = true) : vPln ps = decide (ps.length ≤ 6) := by
  rw [List.take_length] at he
  unfold vPln vMod
  rw [List.length_map, h, he]
  by_cases h0 : ps.length = 0
  · simp [h0]
  · simp [h0]; omega
theorem pst_map {ls : List PstA} {j : Nat} {x : PstA} (h : ls[j]? = some x) : (ls.map PstA.p)[j]? = some x.p := by simp [h]
theorem pst_lay {ls : List PstA} {j : Nat} {x : PstA} (h : ls[j]? = some x) : ((ls.map PstA.p).map PstP.lay)[j]? = some x.p.lay := by simp [h]
end Go.Proofs.YtdngbfpfhkkmpaaDoor
