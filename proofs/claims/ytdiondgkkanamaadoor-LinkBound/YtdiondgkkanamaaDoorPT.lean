/-
  Contracts of bucketlineref07.Alike and Same: for every two packets of rows of at most 2^20 words.
-/
import Derived.Test.YtdiondgkkanamaaDoorPS
namespace Go.Proofs.YtdiondgkkanamaaDoor
open Go.RowKit
set_option linter.unusedVariables false
set_option maxRecDepth 4000


end Go.Proofs.YtdiondgkkanamaaDoor
