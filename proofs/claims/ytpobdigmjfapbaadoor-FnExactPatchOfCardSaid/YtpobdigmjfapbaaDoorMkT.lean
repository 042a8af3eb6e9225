/-
  Marks of states of trainings. Conditions: the lists are the call's own, each once.
-/
import Derived.Test.YtpobdigmjfapbaaDoorTrs
import Derived.Test.YtpobdigmjfapbaaDoorMark
namespace Go.Proofs.YtpobdigmjfapbaaDoor
open Go.RowKit Go.Deep Go.WideShapes Go.ChangeShapes
set_option linter.unusedVariables false

def mkTrs (k : Nat) (q : TrsA) : TrsA := { q with ls := mkLays k q.ls, ss := mkSS (k + cntLays q.ls) q.ss }
def cntTrs (q : TrsA) : Nat := cntLays q.ls + cntSS q.ss
end Go.Proofs.YtpobdigmjfapbaaDoor
