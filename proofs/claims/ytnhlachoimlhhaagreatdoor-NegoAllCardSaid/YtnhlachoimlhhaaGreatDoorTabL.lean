/-
  What the laid table of the weights says.
-/
import Derived.Test.YtnhlachoimlhhaaGreatDoorIvW
import Derived.Test.YtnhlachoimlhhaaGreatDoorRows
import Derived.Lib.LaidU8
import Derived.Lib.LaidTab
import Derived.MakeChecks
import Derived.OpenShut
namespace Go.Proofs.YtnhlachoimlhhaaGreatDoor
open Go.ChangeShapes Go.WideShapes Go.ChangeAt Go.RowKit
set_option linter.unusedVariables false
set_option linter.unusedSimpArgs false

theorem tabW_laid {W : World} {l : List (String × DataW Unit)} (h : laidMet Tryz.prog l W) (hm : ("muleteer/ival.weights", (Rows.laid_muleteer_ival_weights : DataW Unit)) ∈ l) : TabW W := by
  obtain ⟨ps, h, _⟩ := h
  obtain ⟨g, t, cs, fuel, p, hg, ht, hvar, hd⟩ := Lib.LaidVars_reads h _ _ hm
  rw [show (Rows.laid_muleteer_ival_weights : DataW Unit) = Lib.tabData .u64 [5, 5, 5, 5, 4, 3, 2, 1] by kernel_rfl] at hd
  have e : Tryz.prog.globalNamed "muleteer/ival.weights" = some 3 := by kernel_rfl
  obtain rfl := Option.some.inj (e.symm.trans hg)
  obtain rfl : t = 287 := (Option.some.inj ((show (Tryz.prog.globals[3]?).map (·.type) = some 287 by kernel_rfl).symm.trans ht)).symm
  have hc := Lib.cells_of_tab Tryz.underlying287 Tryz.underlying55 (by kernel_rfl) (by kernel_rfl) hd
  obtain ⟨cl⟩ := cs
  simp only at hc
  subst hc
  intro i hi
  have h1 := World.var?_cell e hvar i
  rw [h1]
  obtain rfl | rfl | rfl | rfl | rfl | rfl | rfl | rfl : i = 0 ∨ i = 1 ∨ i = 2 ∨ i = 3 ∨ i = 4 ∨ i = 5 ∨ i = 6 ∨ i = 7 := by omega
  all_goals rfl
end Go.Proofs.YtnhlachoimlhhaaGreatDoor
