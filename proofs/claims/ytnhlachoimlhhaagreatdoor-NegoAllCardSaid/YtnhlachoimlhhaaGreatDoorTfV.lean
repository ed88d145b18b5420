/-
  Package rset: Only, Maximize, Halve.
  Package tfrc: what it tells; waiting in vain.
-/
import Derived.Test.YtnhlachoimlhhaaGreatDoorSetM
import Derived.Test.YtnhlachoimlhhaaGreatDoorMatW
import Derived.Deep.RegionLaw
import Derived.Test.YtnhlachoimlhhaaGreatDoorTfW
namespace Go.Proofs.YtnhlachoimlhhaaGreatDoor
open Go.ChangeShapes Go.WideShapes Go.ChangeAt Go.RowKit
set_option linter.unusedVariables false
set_option linter.unusedSimpArgs false

end Go.Proofs.YtnhlachoimlhhaaGreatDoor

namespace Go.Proofs.YtnhlachoimlhhaaGreatDoor
open Go.ChangeShapes Go.WideShapes Go.ChangeAt Go.RowKit
set_option linter.unusedVariables false
set_option linter.unusedSimpArgs false

theorem tfDue_any (s : TfS) (hs : s.ok) (l : List Pr) (C P : Nat) (v : Value) (w : World) (h : TfAt s l C P v w) :
    Calls Tryz.prog 349 #[.pointer (some ⟨C, 0, none⟩)] w fun e w' => e = .returned (.tuple #[.int .i64 s.due, .bool s.runs]) ∧ ∃ n, w' = w.drewN n := by
  have HM := Lib.hid (tfMade_any s hs l C P v w h)
  have c7 : w.cell? ⟨C, 7, none⟩ = some (.int .i64 s.due) := BlkIs.cell h.tf 7
  have c8 : w.cell? ⟨C, 8, none⟩ = some (.bool s.runs) := BlkIs.cell h.tf 8
  clear h hs
  go_enter Tryz.func349, Tryz.ntmps349
  go_wp2_with (go_at_call 77; (with_reducible refine HM.out.mono ?_); rintro e w1 ⟨rfl, rfl⟩)
  go_quiet (fail)
  go_wp2
  go_ret2
  exact ⟨rfl, _, rfl⟩
end Go.Proofs.YtnhlachoimlhhaaGreatDoor
