/-
  The model's decimal numerals.
-/
import Derived.Test.YtglcaejddckleaaDoorHashD
import Derived.Laws.IdiomStrings
namespace Go.Proofs.YtglcaejddckleaaDoor
open Go.RowKit
set_option linter.unusedVariables false

end Go.Proofs.YtglcaejddckleaaDoor
