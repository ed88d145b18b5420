/-
  What the quotients of products come to.
-/
import Derived.Test.YtdlpapchjjbplaaGreatDoorFixC
namespace Go.Proofs.YtdlpapchjjbplaaGreatDoor
open Go.ChangeShapes Go.WideShapes Go.ChangeAt Go.RowKit
set_option linter.unusedVariables false

end Go.Proofs.YtdlpapchjjbplaaGreatDoor
