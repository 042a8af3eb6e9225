/-
  Texts of lists: the model over its way to write an item. Conditions: the items can be read, each item's text is short.
-/
import Derived.Test.YtjecphimknfphaaDoorTls
namespace Go.Proofs.YtjecphimknfphaaDoor
open Go.RowKit Go.Deep Go.WideShapes Go.ChangeShapes
set_option linter.unusedVariables false
set_option linter.unusedSimpArgs false

attribute [local go_sem] txt_size

end Go.Proofs.YtjecphimknfphaaDoor
