/-
  States of trainings: what a copy says. Conditions: the cells can be read.
-/
import Derived.Test.YtlddonneccihiaaSmt
import Derived.Test.YtlddonneccihiaaSmn
namespace Go.Proofs.Ytlddonneccihiaa
open Go.RowKit Go.Deep Go.WideShapes Go.ChangeShapes
set_option linter.unusedVariables false

theorem vSame_of {r q r' q' : TrsA} (h : TrsEq r q) (h' : TrsEq r' q') : vSame r r' = vSame q q' := by
  unfold vSame sameLs sameSS
  rw [h.ls, h'.ls, h.ss, h'.ss, h.2.2.1, h.2.2.2.1, h.2.2.2.2, h'.2.2.1, h'.2.2.2.1, h'.2.2.2.2]
end Go.Proofs.Ytlddonneccihiaa
