/-
  Lists of lists of floats: sizes and copies. Conditions: the cells can be read.
-/
import Derived.Test.YtdgoladbkaldkaaSS
import Derived.Test.YtdgoladbkaldkaaMod
namespace Go.Proofs.Ytdgoladbkaldkaa
open Go.RowKit Go.Deep Go.WideShapes Go.ChangeShapes
set_option linter.unusedVariables false

end Go.Proofs.Ytdgoladbkaldkaa
