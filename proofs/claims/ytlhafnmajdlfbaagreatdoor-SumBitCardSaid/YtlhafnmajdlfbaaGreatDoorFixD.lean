/-
  What the quotients of products come to.
-/
import Derived.Test.YtlhafnmajdlfbaaGreatDoorFixC
namespace Go.Proofs.YtlhafnmajdlfbaaGreatDoor
open Go.ChangeShapes Go.WideShapes Go.ChangeAt Go.RowKit
set_option linter.unusedVariables false

end Go.Proofs.YtlhafnmajdlfbaaGreatDoor
