/-
  The text of a negative float, of the model: the walk.
-/
import Derived.Test.YtglcaejddckleaaDoorHashF
namespace Go.Proofs.YtglcaejddckleaaDoor
open Go.RowKit
set_option linter.unusedVariables false

end Go.Proofs.YtglcaejddckleaaDoor
