/-
  Slices of the rows' vectors, of one's own.
-/
import Derived.Test.YtbfkhioljpgjjaaDoorRw
import Derived.Test.YtbfkhioljpgjjaaDoorVw
namespace Go.Proofs.YtbfkhioljpgjjaaDoor
open Go.RowKit Go.Sort
set_option linter.unusedVariables false
set_option maxRecDepth 4000

end Go.Proofs.YtbfkhioljpgjjaaDoor
