/-
  DERIVED. GIVEN WITH THE SEED: THE CARDS: each row of YtnffdacajdjeoaaGreatDoorRows.lean that lists a variable, with what it lists TIED to the program's text (the seventh form; the later family's looks); each row that meets fmt, with fmt's text TOLD by the authors' own Lean function (tested against real Go, not proved from fmt's source: count such statements apart). THE CARD IS WHAT COUNTS. Prove the row's statement (the work); the ties are given (YtnffdacajdjeoaaGreatDoorTie.lean); close each card by the builder's one call (the guide's Derived/Test/ToyasCard.lean, 'card_holds'). Laid BY PROGRAM, IN A SANDBOX (cutbox-door.mjs). By AI agents, Wed Nov 11 2026. No macro, syntax, notation, axiom, sorry.
-/
import Derived.Test.YtnffdacajdjeoaaGreatDoorRows
import GoSem.ClaimSeven
namespace Go.Proofs.YtnffdacajdjeoaaGreatDoor
namespace Rows

/-- THE TIED CARD OF 'muleteerlaw8.VecAll'. -/
def vecAllCard : Claim7 := { stood := { row := vecAllRow, standIns := [], harness := (true, "f5ac9b0eab54d46bdca0222b22f4452578ed9166723464a08e08e1d4dfc33917"), looks := false }, kinds := [], alts := [], laidByText := true, laidKinds := [.data, .data, .data, .data, .data, .pinned], laidTests := true, laidLooks := .later }
def VecAllCardSaid : Prop := Claim7.holds Tryz.pinned (.plain (OpenSpec.ofChange vecAllSpec)) vecAllCard

/-- THE TIED CARD OF 'muleteerlaw8.VecMerge'. -/
def vecMergeCard : Claim7 := { stood := { row := vecMergeRow, standIns := [], harness := (true, "f5ac9b0eab54d46bdca0222b22f4452578ed9166723464a08e08e1d4dfc33917"), looks := false }, kinds := [], alts := [], laidByText := true, laidKinds := [.data, .data, .data, .data, .data, .pinned], laidTests := true, laidLooks := .later }
def VecMergeCardSaid : Prop := Claim7.holds Tryz.pinned (.plain (OpenSpec.ofChange vecMergeSpec)) vecMergeCard

/-- THE TIED CARD OF 'muleteerlaw8.IvalAll'. -/
def ivalAllCard : Claim7 := { stood := { row := ivalAllRow, standIns := [], harness := (true, "f5ac9b0eab54d46bdca0222b22f4452578ed9166723464a08e08e1d4dfc33917"), looks := false }, kinds := [], alts := [], laidByText := true, laidKinds := [.data, .data, .data, .data, .data, .pinned], laidTests := true, laidLooks := .later }
def IvalAllCardSaid : Prop := Claim7.holds Tryz.pinned (.plain (OpenSpec.ofChange ivalAllSpec)) ivalAllCard

/-- THE TIED CARD OF 'muleteerlaw8.RttAll'. -/
def rttAllCard : Claim7 := { stood := { row := rttAllRow, standIns := [], harness := (true, "f5ac9b0eab54d46bdca0222b22f4452578ed9166723464a08e08e1d4dfc33917"), looks := false }, kinds := [], alts := [], laidByText := true, laidKinds := [.data, .data, .data, .data, .data, .pinned], laidTests := true, laidLooks := .later }
def RttAllCardSaid : Prop := Claim7.holds Tryz.pinned (.plain (OpenSpec.ofChange rttAllSpec)) rttAllCard

/-- THE TIED CARD OF 'muleteerlaw8.EqnAll'. -/
def eqnAllCard : Claim7 := { stood := { row := eqnAllRow, standIns := [], harness := (true, "f5ac9b0eab54d46bdca0222b22f4452578ed9166723464a08e08e1d4dfc33917"), looks := false }, kinds := [], alts := [], laidByText := true, laidKinds := [.data, .data, .data, .data, .data, .pinned], laidTests := true, laidLooks := .later }
def EqnAllCardSaid : Prop := Claim7.holds Tryz.pinned (.plain (OpenSpec.ofChange eqnAllSpec)) eqnAllCard

/-- THE TIED CARD OF 'muleteerlaw8.EqnOrder'. -/
def eqnOrderCard : Claim7 := { stood := { row := eqnOrderRow, standIns := [], harness := (true, "f5ac9b0eab54d46bdca0222b22f4452578ed9166723464a08e08e1d4dfc33917"), looks := false }, kinds := [], alts := [], laidByText := true, laidKinds := [.data, .data, .data, .data, .data, .pinned], laidTests := true, laidLooks := .later }
def EqnOrderCardSaid : Prop := Claim7.holds Tryz.pinned (.plain (OpenSpec.ofChange eqnOrderSpec)) eqnOrderCard

/-- THE TIED CARD OF 'muleteerlaw8.RatesNone'. -/
def ratesNoneCard : Claim7 := { stood := { row := ratesNoneRow, standIns := [], harness := (true, "f5ac9b0eab54d46bdca0222b22f4452578ed9166723464a08e08e1d4dfc33917"), looks := false }, kinds := [], alts := [], laidByText := true, laidKinds := [.data, .data, .data, .data, .data, .pinned], laidTests := true, laidLooks := .later }
def RatesNoneCardSaid : Prop := Claim7.holds Tryz.pinned (.plain (OpenSpec.ofChange ratesNoneSpec)) ratesNoneCard

/-- THE TIED CARD OF 'muleteerlaw8.VecRuns'. -/
def vecRunsCard : Claim7 := { stood := { row := vecRunsRow, standIns := [], harness := (true, "f5ac9b0eab54d46bdca0222b22f4452578ed9166723464a08e08e1d4dfc33917"), looks := false }, kinds := [], alts := [], laidByText := true, laidKinds := [.data, .data, .data, .data, .data, .pinned], laidTests := true, laidLooks := .later }
def VecRunsCardSaid : Prop := Claim7.holds Tryz.pinned (.plain (OpenSpec.ofChange vecRunsSpec)) vecRunsCard

/-- THE TIED CARD OF 'muleteerlaw8.IvalSteady'. -/
def ivalSteadyCard : Claim7 := { stood := { row := ivalSteadyRow, standIns := [], harness := (true, "f5ac9b0eab54d46bdca0222b22f4452578ed9166723464a08e08e1d4dfc33917"), looks := false }, kinds := [], alts := [], laidByText := true, laidKinds := [.data, .data, .data, .data, .data, .pinned], laidTests := true, laidLooks := .later }
def IvalSteadyCardSaid : Prop := Claim7.holds Tryz.pinned (.plain (OpenSpec.ofChange ivalSteadySpec)) ivalSteadyCard

/-- THE TIED CARD OF 'muleteerlaw8.IvalOrder'. -/
def ivalOrderCard : Claim7 := { stood := { row := ivalOrderRow, standIns := [], harness := (true, "f5ac9b0eab54d46bdca0222b22f4452578ed9166723464a08e08e1d4dfc33917"), looks := false }, kinds := [], alts := [], laidByText := true, laidKinds := [.data, .data, .data, .data, .data, .pinned], laidTests := true, laidLooks := .later }
def IvalOrderCardSaid : Prop := Claim7.holds Tryz.pinned (.plain (OpenSpec.ofChange ivalOrderSpec)) ivalOrderCard

/-- THE TIED CARD OF 'muleteerlaw8.RttSteady'. -/
def rttSteadyCard : Claim7 := { stood := { row := rttSteadyRow, standIns := [], harness := (true, "f5ac9b0eab54d46bdca0222b22f4452578ed9166723464a08e08e1d4dfc33917"), looks := false }, kinds := [], alts := [], laidByText := true, laidKinds := [.data, .data, .data, .data, .data, .pinned], laidTests := true, laidLooks := .later }
def RttSteadyCardSaid : Prop := Claim7.holds Tryz.pinned (.plain (OpenSpec.ofChange rttSteadySpec)) rttSteadyCard

/-- THE TIED CARD OF 'muleteerlaw8.EqnTrue'. -/
def eqnTrueCard : Claim7 := { stood := { row := eqnTrueRow, standIns := [], harness := (true, "f5ac9b0eab54d46bdca0222b22f4452578ed9166723464a08e08e1d4dfc33917"), looks := false }, kinds := [], alts := [], laidByText := true, laidKinds := [.data, .data, .data, .data, .data, .pinned], laidTests := true, laidLooks := .later }
def EqnTrueCardSaid : Prop := Claim7.holds Tryz.pinned (.plain (OpenSpec.ofChange eqnTrueSpec)) eqnTrueCard

/-- THE TIED CARD OF 'muleteerlaw8.VecLong'. -/
def vecLongCard : Claim7 := { stood := { row := vecLongRow, standIns := [], harness := (true, "f5ac9b0eab54d46bdca0222b22f4452578ed9166723464a08e08e1d4dfc33917"), looks := false }, kinds := [], alts := [], laidByText := true, laidKinds := [.data, .data, .data, .data, .data, .pinned], laidTests := true, laidLooks := .later }
def VecLongCardSaid : Prop := Claim7.holds Tryz.pinned (.plain (OpenSpec.ofChange vecLongSpec)) vecLongCard

/-- THE TIED CARD OF 'muleteerlaw8.IvalOne'. -/
def ivalOneCard : Claim7 := { stood := { row := ivalOneRow, standIns := [], harness := (true, "f5ac9b0eab54d46bdca0222b22f4452578ed9166723464a08e08e1d4dfc33917"), looks := false }, kinds := [], alts := [], laidByText := true, laidKinds := [.data, .data, .data, .data, .data, .pinned], laidTests := true, laidLooks := .later }
def IvalOneCardSaid : Prop := Claim7.holds Tryz.pinned (.plain (OpenSpec.ofChange ivalOneSpec)) ivalOneCard

/-- THE TIED CARD OF 'muleteerlaw8.RttBack'. -/
def rttBackCard : Claim7 := { stood := { row := rttBackRow, standIns := [], harness := (true, "f5ac9b0eab54d46bdca0222b22f4452578ed9166723464a08e08e1d4dfc33917"), looks := false }, kinds := [], alts := [], laidByText := true, laidKinds := [.data, .data, .data, .data, .data, .pinned], laidTests := true, laidLooks := .later }
def RttBackCardSaid : Prop := Claim7.holds Tryz.pinned (.plain (OpenSpec.ofChange rttBackSpec)) rttBackCard

/-- THE SECOND FORM's CARD OF 'muleteerlaw8.VecAll'. -/
def vecAllUptoCard : Claim7 := { stood := { row := vecAllUptoRow, standIns := [], harness := (true, "f5ac9b0eab54d46bdca0222b22f4452578ed9166723464a08e08e1d4dfc33917"), looks := false }, kinds := [], alts := [], laidByText := true, laidKinds := [.data, .data, .data, .data, .data, .pinned], laidTests := true, laidLooks := .later }
def VecAllUptoCardSaid : Prop := Claim7.holds Tryz.pinned (.plain (OpenSpec.upto vecAllSpec)) vecAllUptoCard

/-- THE SECOND FORM's CARD OF 'muleteerlaw8.VecMerge'. -/
def vecMergeUptoCard : Claim7 := { stood := { row := vecMergeUptoRow, standIns := [], harness := (true, "f5ac9b0eab54d46bdca0222b22f4452578ed9166723464a08e08e1d4dfc33917"), looks := false }, kinds := [], alts := [], laidByText := true, laidKinds := [.data, .data, .data, .data, .data, .pinned], laidTests := true, laidLooks := .later }
def VecMergeUptoCardSaid : Prop := Claim7.holds Tryz.pinned (.plain (OpenSpec.upto vecMergeSpec)) vecMergeUptoCard

/-- THE SECOND FORM's CARD OF 'muleteerlaw8.IvalAll'. -/
def ivalAllUptoCard : Claim7 := { stood := { row := ivalAllUptoRow, standIns := [], harness := (true, "f5ac9b0eab54d46bdca0222b22f4452578ed9166723464a08e08e1d4dfc33917"), looks := false }, kinds := [], alts := [], laidByText := true, laidKinds := [.data, .data, .data, .data, .data, .pinned], laidTests := true, laidLooks := .later }
def IvalAllUptoCardSaid : Prop := Claim7.holds Tryz.pinned (.plain (OpenSpec.upto ivalAllSpec)) ivalAllUptoCard

/-- THE SECOND FORM's CARD OF 'muleteerlaw8.RttAll'. -/
def rttAllUptoCard : Claim7 := { stood := { row := rttAllUptoRow, standIns := [], harness := (true, "f5ac9b0eab54d46bdca0222b22f4452578ed9166723464a08e08e1d4dfc33917"), looks := false }, kinds := [], alts := [], laidByText := true, laidKinds := [.data, .data, .data, .data, .data, .pinned], laidTests := true, laidLooks := .later }
def RttAllUptoCardSaid : Prop := Claim7.holds Tryz.pinned (.plain (OpenSpec.upto rttAllSpec)) rttAllUptoCard

/-- THE SECOND FORM's CARD OF 'muleteerlaw8.EqnAll'. -/
def eqnAllUptoCard : Claim7 := { stood := { row := eqnAllUptoRow, standIns := [], harness := (true, "f5ac9b0eab54d46bdca0222b22f4452578ed9166723464a08e08e1d4dfc33917"), looks := false }, kinds := [], alts := [], laidByText := true, laidKinds := [.data, .data, .data, .data, .data, .pinned], laidTests := true, laidLooks := .later }
def EqnAllUptoCardSaid : Prop := Claim7.holds Tryz.pinned (.plain (OpenSpec.upto eqnAllSpec)) eqnAllUptoCard

/-- THE SECOND FORM's CARD OF 'muleteerlaw8.EqnOrder'. -/
def eqnOrderUptoCard : Claim7 := { stood := { row := eqnOrderUptoRow, standIns := [], harness := (true, "f5ac9b0eab54d46bdca0222b22f4452578ed9166723464a08e08e1d4dfc33917"), looks := false }, kinds := [], alts := [], laidByText := true, laidKinds := [.data, .data, .data, .data, .data, .pinned], laidTests := true, laidLooks := .later }
def EqnOrderUptoCardSaid : Prop := Claim7.holds Tryz.pinned (.plain (OpenSpec.upto eqnOrderSpec)) eqnOrderUptoCard

/-- THE SECOND FORM's CARD OF 'muleteerlaw8.RatesNone'. -/
def ratesNoneUptoCard : Claim7 := { stood := { row := ratesNoneUptoRow, standIns := [], harness := (true, "f5ac9b0eab54d46bdca0222b22f4452578ed9166723464a08e08e1d4dfc33917"), looks := false }, kinds := [], alts := [], laidByText := true, laidKinds := [.data, .data, .data, .data, .data, .pinned], laidTests := true, laidLooks := .later }
def RatesNoneUptoCardSaid : Prop := Claim7.holds Tryz.pinned (.plain (OpenSpec.upto ratesNoneSpec)) ratesNoneUptoCard

/-- THE SECOND FORM's CARD OF 'muleteerlaw8.VecRuns'. -/
def vecRunsUptoCard : Claim7 := { stood := { row := vecRunsUptoRow, standIns := [], harness := (true, "f5ac9b0eab54d46bdca0222b22f4452578ed9166723464a08e08e1d4dfc33917"), looks := false }, kinds := [], alts := [], laidByText := true, laidKinds := [.data, .data, .data, .data, .data, .pinned], laidTests := true, laidLooks := .later }
def VecRunsUptoCardSaid : Prop := Claim7.holds Tryz.pinned (.plain (OpenSpec.upto vecRunsSpec)) vecRunsUptoCard

/-- THE SECOND FORM's CARD OF 'muleteerlaw8.IvalSteady'. -/
def ivalSteadyUptoCard : Claim7 := { stood := { row := ivalSteadyUptoRow, standIns := [], harness := (true, "f5ac9b0eab54d46bdca0222b22f4452578ed9166723464a08e08e1d4dfc33917"), looks := false }, kinds := [], alts := [], laidByText := true, laidKinds := [.data, .data, .data, .data, .data, .pinned], laidTests := true, laidLooks := .later }
def IvalSteadyUptoCardSaid : Prop := Claim7.holds Tryz.pinned (.plain (OpenSpec.upto ivalSteadySpec)) ivalSteadyUptoCard

/-- THE SECOND FORM's CARD OF 'muleteerlaw8.IvalOrder'. -/
def ivalOrderUptoCard : Claim7 := { stood := { row := ivalOrderUptoRow, standIns := [], harness := (true, "f5ac9b0eab54d46bdca0222b22f4452578ed9166723464a08e08e1d4dfc33917"), looks := false }, kinds := [], alts := [], laidByText := true, laidKinds := [.data, .data, .data, .data, .data, .pinned], laidTests := true, laidLooks := .later }
def IvalOrderUptoCardSaid : Prop := Claim7.holds Tryz.pinned (.plain (OpenSpec.upto ivalOrderSpec)) ivalOrderUptoCard

/-- THE SECOND FORM's CARD OF 'muleteerlaw8.RttSteady'. -/
def rttSteadyUptoCard : Claim7 := { stood := { row := rttSteadyUptoRow, standIns := [], harness := (true, "f5ac9b0eab54d46bdca0222b22f4452578ed9166723464a08e08e1d4dfc33917"), looks := false }, kinds := [], alts := [], laidByText := true, laidKinds := [.data, .data, .data, .data, .data, .pinned], laidTests := true, laidLooks := .later }
def RttSteadyUptoCardSaid : Prop := Claim7.holds Tryz.pinned (.plain (OpenSpec.upto rttSteadySpec)) rttSteadyUptoCard

/-- THE SECOND FORM's CARD OF 'muleteerlaw8.EqnTrue'. -/
def eqnTrueUptoCard : Claim7 := { stood := { row := eqnTrueUptoRow, standIns := [], harness := (true, "f5ac9b0eab54d46bdca0222b22f4452578ed9166723464a08e08e1d4dfc33917"), looks := false }, kinds := [], alts := [], laidByText := true, laidKinds := [.data, .data, .data, .data, .data, .pinned], laidTests := true, laidLooks := .later }
def EqnTrueUptoCardSaid : Prop := Claim7.holds Tryz.pinned (.plain (OpenSpec.upto eqnTrueSpec)) eqnTrueUptoCard

/-- THE SECOND FORM's CARD OF 'muleteerlaw8.VecLong'. -/
def vecLongUptoCard : Claim7 := { stood := { row := vecLongUptoRow, standIns := [], harness := (true, "f5ac9b0eab54d46bdca0222b22f4452578ed9166723464a08e08e1d4dfc33917"), looks := false }, kinds := [], alts := [], laidByText := true, laidKinds := [.data, .data, .data, .data, .data, .pinned], laidTests := true, laidLooks := .later }
def VecLongUptoCardSaid : Prop := Claim7.holds Tryz.pinned (.plain (OpenSpec.upto vecLongSpec)) vecLongUptoCard

/-- THE SECOND FORM's CARD OF 'muleteerlaw8.IvalOne'. -/
def ivalOneUptoCard : Claim7 := { stood := { row := ivalOneUptoRow, standIns := [], harness := (true, "f5ac9b0eab54d46bdca0222b22f4452578ed9166723464a08e08e1d4dfc33917"), looks := false }, kinds := [], alts := [], laidByText := true, laidKinds := [.data, .data, .data, .data, .data, .pinned], laidTests := true, laidLooks := .later }
def IvalOneUptoCardSaid : Prop := Claim7.holds Tryz.pinned (.plain (OpenSpec.upto ivalOneSpec)) ivalOneUptoCard

/-- THE SECOND FORM's CARD OF 'muleteerlaw8.RttBack'. -/
def rttBackUptoCard : Claim7 := { stood := { row := rttBackUptoRow, standIns := [], harness := (true, "f5ac9b0eab54d46bdca0222b22f4452578ed9166723464a08e08e1d4dfc33917"), looks := false }, kinds := [], alts := [], laidByText := true, laidKinds := [.data, .data, .data, .data, .data, .pinned], laidTests := true, laidLooks := .later }
def RttBackUptoCardSaid : Prop := Claim7.holds Tryz.pinned (.plain (OpenSpec.upto rttBackSpec)) rttBackUptoCard
end Rows
end Go.Proofs.YtnffdacajdjeoaaGreatDoor
