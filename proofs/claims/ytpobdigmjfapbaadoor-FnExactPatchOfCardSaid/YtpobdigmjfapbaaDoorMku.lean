/-
  Marks of states of trainings of any size that a law draws. Conditions: the lists are the call's own, each once.
-/
import Derived.Test.YtpobdigmjfapbaaDoorMkT
import Derived.Test.YtpobdigmjfapbaaDoorSmn
namespace Go.Proofs.YtpobdigmjfapbaaDoor
open Go.RowKit Go.Deep Go.WideShapes Go.ChangeShapes
set_option linter.unusedVariables false

theorem cntTrs_le (q : TrsA) : cntTrs q ≤ 3 * trsSum q := by
  simp only [cntTrs, cntLays, trsSum]
  omega
theorem trsSum_parts {q : TrsA} (h : trsSum q ≤ 1048576) : laySum (q.ls.map LayA.p) ≤ 1048576 ∧ q.ss.length ≤ 1048576 ∧ cntSS q.ss ≤ 1048576 := by
  simp only [trsSum] at h
  omega
theorem cntSS_zs (ls : List FlA) : cntSS ls = ((ls.map FlA.z).map List.length).sum := by simp [cntSS, Function.comp_def]
theorem cntTrs_of {r q : TrsA} (h : TrsEq r q) : cntTrs r = cntTrs q := by
  obtain ⟨h1, h2, _⟩ := h
  have e1 : r.ls.map LayA.p = q.ls.map LayA.p := h1
  have e2 : r.ss.map FlA.z = q.ss.map FlA.z := h2
  have e3 : r.ls.length = q.ls.length := by simpa using congrArg List.length e1
  simp only [cntTrs, cntLays, cntSS_zs, e1, e2, e3]
theorem trsSum_of {r q : TrsA} (h : TrsEq r q) : trsSum r = trsSum q := by
  obtain ⟨h1, h2, _⟩ := h
  have e1 : r.ls.map LayA.p = q.ls.map LayA.p := h1
  have e2 : r.ss.map FlA.z = q.ss.map FlA.z := h2
  have e3 : r.ls.length = q.ls.length := by simpa using congrArg List.length e1
  have e4 : r.ss.length = q.ss.length := by simpa using congrArg List.length e2
  simp only [trsSum, cntSS_zs, e1, e2, e3, e4]
theorem c_toTrsN (q : TrsA) (w : World) (h : TrsAt w q) (hl : trsSum q ≤ 1048576) :
    Calls Tryd.prog 25 #[.agg q.cells] w fun e w' => ∃ r : TrsA, e = .returned (.agg r.cells) ∧ TrsEq r q ∧ OwnL w' w.heap.size [lsC 105 r, slC 24 r] ∧ r.sc < 2 ^ 32 ∧ r.bl.Nodup ∧ Below w.heap.size w w' :=
  (c_toTrs q w h hl).mono fun e w' ⟨r, he, h1, h2, h3, h4, h5, ho, hnd, hb⟩ => ⟨r, he, ⟨h1, h2, h3, h4, h5⟩, ho.1, ho.2, hnd, hb⟩
end Go.Proofs.YtpobdigmjfapbaaDoor
