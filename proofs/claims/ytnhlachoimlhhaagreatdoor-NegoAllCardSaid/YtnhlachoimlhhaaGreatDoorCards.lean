/-
  DERIVED. GIVEN WITH THE SEED: THE CARDS: each row of YtnhlachoimlhhaaGreatDoorRows.lean that lists a variable, with what it lists TIED to the program's text (the seventh form; the later family's looks); each row that meets fmt, with fmt's text TOLD by the authors' own Lean function (tested against real Go, not proved from fmt's source: count such statements apart). THE CARD IS WHAT COUNTS. Prove the row's statement (the work); the ties are given (YtnhlachoimlhhaaGreatDoorTie.lean); close each card by the builder's one call (the guide's Derived/Test/ToyasCard.lean, 'card_holds'). Laid BY PROGRAM, IN A SANDBOX (cutbox-door.mjs). By AI agents, Wed Nov 11 2026. No macro, syntax, notation, axiom, sorry.
-/
import Derived.Test.YtnhlachoimlhhaaGreatDoorRows
import GoSem.ClaimSeven
namespace Go.Proofs.YtnhlachoimlhhaaGreatDoor
namespace Rows

/-- THE TIED CARD OF 'muleteerlaw18.NegoAll'. -/
def negoAllCard : Claim7 := { stood := { row := negoAllRow, standIns := [], harness := (true, "0dff68768abebd7aa88f3d55153899d2be74cee914f014a76fc0bc4e9493b63e"), looks := true }, kinds := [], alts := [], laidByText := true, laidKinds := [.data, .data, .data, .data, .data, .pinned], laidTests := true, laidLooks := .later }
def NegoAllCardSaid : Prop := Claim7.holds Tryz.pinned (.plain (OpenSpec.ofChange negoAllSpec)) negoAllCard

/-- THE TIED CARD OF 'muleteerlaw18.CtrlKinds'. -/
def ctrlKindsCard : Claim7 := { stood := { row := ctrlKindsRow, standIns := [], harness := (true, "0dff68768abebd7aa88f3d55153899d2be74cee914f014a76fc0bc4e9493b63e"), looks := true }, kinds := [], alts := [], laidByText := true, laidKinds := [.data, .data, .data, .data, .data, .pinned], laidTests := true, laidLooks := .later }
def CtrlKindsCardSaid : Prop := Claim7.holds Tryz.pinned (.plain (OpenSpec.ofChange ctrlKindsSpec)) ctrlKindsCard

/-- THE TIED CARD OF 'muleteerlaw18.ValidNext'. -/
def validNextCard : Claim7 := { stood := { row := validNextRow, standIns := [], harness := (true, "0dff68768abebd7aa88f3d55153899d2be74cee914f014a76fc0bc4e9493b63e"), looks := true }, kinds := [], alts := [], laidByText := true, laidKinds := [.data, .data, .data, .data, .data, .pinned], laidTests := true, laidLooks := .later }
def ValidNextCardSaid : Prop := Claim7.holds Tryz.pinned (.plain (OpenSpec.ofChange validNextSpec)) validNextCard

/-- THE TIED CARD OF 'muleteerlaw18.CtrlNone'. -/
def ctrlNoneCard : Claim7 := { stood := { row := ctrlNoneRow, standIns := [], harness := (true, "0dff68768abebd7aa88f3d55153899d2be74cee914f014a76fc0bc4e9493b63e"), looks := true }, kinds := [], alts := [], laidByText := true, laidKinds := [.data, .data, .data, .data, .data, .pinned], laidTests := true, laidLooks := .later }
def CtrlNoneCardSaid : Prop := Claim7.holds Tryz.pinned (.plain (OpenSpec.ofChange ctrlNoneSpec)) ctrlNoneCard

/-- THE TIED CARD OF 'muleteerlaw18.CtrlWait'. -/
def ctrlWaitCard : Claim7 := { stood := { row := ctrlWaitRow, standIns := [], harness := (true, "0dff68768abebd7aa88f3d55153899d2be74cee914f014a76fc0bc4e9493b63e"), looks := true }, kinds := [], alts := [], laidByText := true, laidKinds := [.data, .data, .data, .data, .data, .pinned], laidTests := true, laidLooks := .later }
def CtrlWaitCardSaid : Prop := Claim7.holds Tryz.pinned (.plain (OpenSpec.ofChange ctrlWaitSpec)) ctrlWaitCard

/-- THE TIED CARD OF 'muleteerlaw18.CtrlHear'. -/
def ctrlHearCard : Claim7 := { stood := { row := ctrlHearRow, standIns := [], harness := (true, "0dff68768abebd7aa88f3d55153899d2be74cee914f014a76fc0bc4e9493b63e"), looks := true }, kinds := [], alts := [], laidByText := true, laidKinds := [.data, .data, .data, .data, .data, .pinned], laidTests := true, laidLooks := .later }
def CtrlHearCardSaid : Prop := Claim7.holds Tryz.pinned (.plain (OpenSpec.ofChange ctrlHearSpec)) ctrlHearCard

/-- THE TIED CARD OF 'muleteerlaw18.ValidStates'. -/
def validStatesCard : Claim7 := { stood := { row := validStatesRow, standIns := [], harness := (true, "0dff68768abebd7aa88f3d55153899d2be74cee914f014a76fc0bc4e9493b63e"), looks := true }, kinds := [], alts := [], laidByText := true, laidKinds := [.data, .data, .data, .data, .data, .pinned], laidTests := true, laidLooks := .later }
def ValidStatesCardSaid : Prop := Claim7.holds Tryz.pinned (.plain (OpenSpec.ofChange validStatesSpec)) validStatesCard

/-- THE TIED CARD OF 'muleteerlaw18.ValidWindow'. -/
def validWindowCard : Claim7 := { stood := { row := validWindowRow, standIns := [], harness := (true, "0dff68768abebd7aa88f3d55153899d2be74cee914f014a76fc0bc4e9493b63e"), looks := true }, kinds := [], alts := [], laidByText := true, laidKinds := [.data, .data, .data, .data, .data, .pinned], laidTests := true, laidLooks := .later }
def ValidWindowCardSaid : Prop := Claim7.holds Tryz.pinned (.plain (OpenSpec.ofChange validWindowSpec)) validWindowCard

/-- THE TIED CARD OF 'muleteerlaw18.CtrlFire'. -/
def ctrlFireCard : Claim7 := { stood := { row := ctrlFireRow, standIns := [], harness := (true, "0dff68768abebd7aa88f3d55153899d2be74cee914f014a76fc0bc4e9493b63e"), looks := true }, kinds := [], alts := [], laidByText := true, laidKinds := [.data, .data, .data, .data, .data, .pinned], laidTests := true, laidLooks := .later }
def CtrlFireCardSaid : Prop := Claim7.holds Tryz.pinned (.plain (OpenSpec.ofChange ctrlFireSpec)) ctrlFireCard

/-- THE TIED CARD OF 'muleteerlaw18.CtrlNoLoss'. -/
def ctrlNoLossCard : Claim7 := { stood := { row := ctrlNoLossRow, standIns := [], harness := (true, "0dff68768abebd7aa88f3d55153899d2be74cee914f014a76fc0bc4e9493b63e"), looks := true }, kinds := [], alts := [], laidByText := true, laidKinds := [.data, .data, .data, .data, .data, .pinned], laidTests := true, laidLooks := .later }
def CtrlNoLossCardSaid : Prop := Claim7.holds Tryz.pinned (.plain (OpenSpec.ofChange ctrlNoLossSpec)) ctrlNoLossCard

/-- THE TIED CARD OF 'muleteerlaw18.ValidShort'. -/
def validShortCard : Claim7 := { stood := { row := validShortRow, standIns := [], harness := (true, "0dff68768abebd7aa88f3d55153899d2be74cee914f014a76fc0bc4e9493b63e"), looks := true }, kinds := [], alts := [], laidByText := true, laidKinds := [.data, .data, .data, .data, .data, .pinned], laidTests := true, laidLooks := .later }
def ValidShortCardSaid : Prop := Claim7.holds Tryz.pinned (.plain (OpenSpec.ofChange validShortSpec)) validShortCard

/-- THE SECOND FORM's CARD OF 'muleteerlaw18.NegoAll'. -/
def negoAllUptoCard : Claim7 := { stood := { row := negoAllUptoRow, standIns := [], harness := (true, "0dff68768abebd7aa88f3d55153899d2be74cee914f014a76fc0bc4e9493b63e"), looks := true }, kinds := [], alts := [], laidByText := true, laidKinds := [.data, .data, .data, .data, .data, .pinned], laidTests := true, laidLooks := .later }
def NegoAllUptoCardSaid : Prop := Claim7.holds Tryz.pinned (.plain (OpenSpec.upto negoAllSpec)) negoAllUptoCard

/-- THE SECOND FORM's CARD OF 'muleteerlaw18.CtrlKinds'. -/
def ctrlKindsUptoCard : Claim7 := { stood := { row := ctrlKindsUptoRow, standIns := [], harness := (true, "0dff68768abebd7aa88f3d55153899d2be74cee914f014a76fc0bc4e9493b63e"), looks := true }, kinds := [], alts := [], laidByText := true, laidKinds := [.data, .data, .data, .data, .data, .pinned], laidTests := true, laidLooks := .later }
def CtrlKindsUptoCardSaid : Prop := Claim7.holds Tryz.pinned (.plain (OpenSpec.upto ctrlKindsSpec)) ctrlKindsUptoCard

/-- THE SECOND FORM's CARD OF 'muleteerlaw18.ValidNext'. -/
def validNextUptoCard : Claim7 := { stood := { row := validNextUptoRow, standIns := [], harness := (true, "0dff68768abebd7aa88f3d55153899d2be74cee914f014a76fc0bc4e9493b63e"), looks := true }, kinds := [], alts := [], laidByText := true, laidKinds := [.data, .data, .data, .data, .data, .pinned], laidTests := true, laidLooks := .later }
def ValidNextUptoCardSaid : Prop := Claim7.holds Tryz.pinned (.plain (OpenSpec.upto validNextSpec)) validNextUptoCard

/-- THE SECOND FORM's CARD OF 'muleteerlaw18.CtrlNone'. -/
def ctrlNoneUptoCard : Claim7 := { stood := { row := ctrlNoneUptoRow, standIns := [], harness := (true, "0dff68768abebd7aa88f3d55153899d2be74cee914f014a76fc0bc4e9493b63e"), looks := true }, kinds := [], alts := [], laidByText := true, laidKinds := [.data, .data, .data, .data, .data, .pinned], laidTests := true, laidLooks := .later }
def CtrlNoneUptoCardSaid : Prop := Claim7.holds Tryz.pinned (.plain (OpenSpec.upto ctrlNoneSpec)) ctrlNoneUptoCard

/-- THE SECOND FORM's CARD OF 'muleteerlaw18.CtrlWait'. -/
def ctrlWaitUptoCard : Claim7 := { stood := { row := ctrlWaitUptoRow, standIns := [], harness := (true, "0dff68768abebd7aa88f3d55153899d2be74cee914f014a76fc0bc4e9493b63e"), looks := true }, kinds := [], alts := [], laidByText := true, laidKinds := [.data, .data, .data, .data, .data, .pinned], laidTests := true, laidLooks := .later }
def CtrlWaitUptoCardSaid : Prop := Claim7.holds Tryz.pinned (.plain (OpenSpec.upto ctrlWaitSpec)) ctrlWaitUptoCard

/-- THE SECOND FORM's CARD OF 'muleteerlaw18.CtrlHear'. -/
def ctrlHearUptoCard : Claim7 := { stood := { row := ctrlHearUptoRow, standIns := [], harness := (true, "0dff68768abebd7aa88f3d55153899d2be74cee914f014a76fc0bc4e9493b63e"), looks := true }, kinds := [], alts := [], laidByText := true, laidKinds := [.data, .data, .data, .data, .data, .pinned], laidTests := true, laidLooks := .later }
def CtrlHearUptoCardSaid : Prop := Claim7.holds Tryz.pinned (.plain (OpenSpec.upto ctrlHearSpec)) ctrlHearUptoCard

/-- THE SECOND FORM's CARD OF 'muleteerlaw18.ValidStates'. -/
def validStatesUptoCard : Claim7 := { stood := { row := validStatesUptoRow, standIns := [], harness := (true, "0dff68768abebd7aa88f3d55153899d2be74cee914f014a76fc0bc4e9493b63e"), looks := true }, kinds := [], alts := [], laidByText := true, laidKinds := [.data, .data, .data, .data, .data, .pinned], laidTests := true, laidLooks := .later }
def ValidStatesUptoCardSaid : Prop := Claim7.holds Tryz.pinned (.plain (OpenSpec.upto validStatesSpec)) validStatesUptoCard

/-- THE SECOND FORM's CARD OF 'muleteerlaw18.ValidWindow'. -/
def validWindowUptoCard : Claim7 := { stood := { row := validWindowUptoRow, standIns := [], harness := (true, "0dff68768abebd7aa88f3d55153899d2be74cee914f014a76fc0bc4e9493b63e"), looks := true }, kinds := [], alts := [], laidByText := true, laidKinds := [.data, .data, .data, .data, .data, .pinned], laidTests := true, laidLooks := .later }
def ValidWindowUptoCardSaid : Prop := Claim7.holds Tryz.pinned (.plain (OpenSpec.upto validWindowSpec)) validWindowUptoCard

/-- THE SECOND FORM's CARD OF 'muleteerlaw18.CtrlFire'. -/
def ctrlFireUptoCard : Claim7 := { stood := { row := ctrlFireUptoRow, standIns := [], harness := (true, "0dff68768abebd7aa88f3d55153899d2be74cee914f014a76fc0bc4e9493b63e"), looks := true }, kinds := [], alts := [], laidByText := true, laidKinds := [.data, .data, .data, .data, .data, .pinned], laidTests := true, laidLooks := .later }
def CtrlFireUptoCardSaid : Prop := Claim7.holds Tryz.pinned (.plain (OpenSpec.upto ctrlFireSpec)) ctrlFireUptoCard

/-- THE SECOND FORM's CARD OF 'muleteerlaw18.CtrlNoLoss'. -/
def ctrlNoLossUptoCard : Claim7 := { stood := { row := ctrlNoLossUptoRow, standIns := [], harness := (true, "0dff68768abebd7aa88f3d55153899d2be74cee914f014a76fc0bc4e9493b63e"), looks := true }, kinds := [], alts := [], laidByText := true, laidKinds := [.data, .data, .data, .data, .data, .pinned], laidTests := true, laidLooks := .later }
def CtrlNoLossUptoCardSaid : Prop := Claim7.holds Tryz.pinned (.plain (OpenSpec.upto ctrlNoLossSpec)) ctrlNoLossUptoCard

/-- THE SECOND FORM's CARD OF 'muleteerlaw18.ValidShort'. -/
def validShortUptoCard : Claim7 := { stood := { row := validShortUptoRow, standIns := [], harness := (true, "0dff68768abebd7aa88f3d55153899d2be74cee914f014a76fc0bc4e9493b63e"), looks := true }, kinds := [], alts := [], laidByText := true, laidKinds := [.data, .data, .data, .data, .data, .pinned], laidTests := true, laidLooks := .later }
def ValidShortUptoCardSaid : Prop := Claim7.holds Tryz.pinned (.plain (OpenSpec.upto validShortSpec)) validShortUptoCard
end Rows
end Go.Proofs.YtnhlachoimlhhaaGreatDoor
