/-
  DERIVED. GIVEN WITH THE SEED: THE CARDS: each row of YtfmnpepgmedfpaaGreatDoorRows.lean that lists a variable, with what it lists TIED to the program's text (the seventh form; the later family's looks); each row that meets fmt, with fmt's text TOLD by the authors' own Lean function (tested against real Go, not proved from fmt's source: count such statements apart). THE CARD IS WHAT COUNTS. Prove the row's statement (the work); the ties are given (YtfmnpepgmedfpaaGreatDoorTie.lean); close each card by the builder's one call (the guide's Derived/Test/ToyasCard.lean, 'card_holds'). Laid BY PROGRAM, IN A SANDBOX (cutbox-door.mjs). By AI agents, Wed Nov 11 2026. No macro, syntax, notation, axiom, sorry.
-/
import Derived.Test.YtfmnpepgmedfpaaGreatDoorRows
import GoSem.ClaimSeven
namespace Go.Proofs.YtfmnpepgmedfpaaGreatDoor
namespace Rows

/-- THE TIED CARD OF 'muleteerlaw18.PaceAll'. -/
def paceAllCard : Claim7 := { stood := { row := paceAllRow, standIns := [], harness := (true, "e05582a8d85470a551641c6c261e01f52de1cd47a83029be1bb392f81a3a7f51"), looks := true }, kinds := [], alts := [], laidByText := true, laidKinds := [.data, .data, .data, .data, .data, .pinned], laidTests := true, laidLooks := .later }
def PaceAllCardSaid : Prop := Claim7.holds Tryz.pinned (.plain (OpenSpec.ofChange paceAllSpec)) paceAllCard

/-- THE TIED CARD OF 'muleteerlaw18.PaceBound'. -/
def paceBoundCard : Claim7 := { stood := { row := paceBoundRow, standIns := [], harness := (true, "e05582a8d85470a551641c6c261e01f52de1cd47a83029be1bb392f81a3a7f51"), looks := true }, kinds := [], alts := [], laidByText := true, laidKinds := [.data, .data, .data, .data, .data, .pinned], laidTests := true, laidLooks := .later }
def PaceBoundCardSaid : Prop := Claim7.holds Tryz.pinned (.plain (OpenSpec.ofChange paceBoundSpec)) paceBoundCard

/-- THE TIED CARD OF 'muleteerlaw18.PaceWhen'. -/
def paceWhenCard : Claim7 := { stood := { row := paceWhenRow, standIns := [], harness := (true, "e05582a8d85470a551641c6c261e01f52de1cd47a83029be1bb392f81a3a7f51"), looks := true }, kinds := [], alts := [], laidByText := true, laidKinds := [.data, .data, .data, .data, .data, .pinned], laidTests := true, laidLooks := .later }
def PaceWhenCardSaid : Prop := Claim7.holds Tryz.pinned (.plain (OpenSpec.ofChange paceWhenSpec)) paceWhenCard

/-- THE TIED CARD OF 'muleteerlaw18.PaceFull'. -/
def paceFullCard : Claim7 := { stood := { row := paceFullRow, standIns := [], harness := (true, "e05582a8d85470a551641c6c261e01f52de1cd47a83029be1bb392f81a3a7f51"), looks := true }, kinds := [], alts := [], laidByText := true, laidKinds := [.data, .data, .data, .data, .data, .pinned], laidTests := true, laidLooks := .later }
def PaceFullCardSaid : Prop := Claim7.holds Tryz.pinned (.plain (OpenSpec.ofChange paceFullSpec)) paceFullCard

/-- THE TIED CARD OF 'muleteerlaw18.PaceFall'. -/
def paceFallCard : Claim7 := { stood := { row := paceFallRow, standIns := [], harness := (true, "e05582a8d85470a551641c6c261e01f52de1cd47a83029be1bb392f81a3a7f51"), looks := true }, kinds := [], alts := [], laidByText := true, laidKinds := [.data, .data, .data, .data, .data, .pinned], laidTests := true, laidLooks := .later }
def PaceFallCardSaid : Prop := Claim7.holds Tryz.pinned (.plain (OpenSpec.ofChange paceFallSpec)) paceFallCard

/-- THE TIED CARD OF 'muleteerlaw18.FeatChoose'. -/
def featChooseCard : Claim7 := { stood := { row := featChooseRow, standIns := [], harness := (true, "e05582a8d85470a551641c6c261e01f52de1cd47a83029be1bb392f81a3a7f51"), looks := true }, kinds := [], alts := [], laidByText := true, laidKinds := [.data, .data, .data, .data, .data, .pinned], laidTests := true, laidLooks := .later }
def FeatChooseCardSaid : Prop := Claim7.holds Tryz.pinned (.plain (OpenSpec.ofChange featChooseSpec)) featChooseCard

/-- THE TIED CARD OF 'muleteerlaw18.NegoBad'. -/
def negoBadCard : Claim7 := { stood := { row := negoBadRow, standIns := [], harness := (true, "e05582a8d85470a551641c6c261e01f52de1cd47a83029be1bb392f81a3a7f51"), looks := true }, kinds := [], alts := [], laidByText := true, laidKinds := [.data, .data, .data, .data, .data, .pinned], laidTests := true, laidLooks := .later }
def NegoBadCardSaid : Prop := Claim7.holds Tryz.pinned (.plain (OpenSpec.ofChange negoBadSpec)) negoBadCard

/-- THE TIED CARD OF 'muleteerlaw18.NegoMust'. -/
def negoMustCard : Claim7 := { stood := { row := negoMustRow, standIns := [], harness := (true, "e05582a8d85470a551641c6c261e01f52de1cd47a83029be1bb392f81a3a7f51"), looks := true }, kinds := [], alts := [], laidByText := true, laidKinds := [.data, .data, .data, .data, .data, .pinned], laidTests := true, laidLooks := .later }
def NegoMustCardSaid : Prop := Claim7.holds Tryz.pinned (.plain (OpenSpec.ofChange negoMustSpec)) negoMustCard

/-- THE TIED CARD OF 'muleteerlaw18.NegoAgain'. -/
def negoAgainCard : Claim7 := { stood := { row := negoAgainRow, standIns := [], harness := (true, "e05582a8d85470a551641c6c261e01f52de1cd47a83029be1bb392f81a3a7f51"), looks := true }, kinds := [], alts := [], laidByText := true, laidKinds := [.data, .data, .data, .data, .data, .pinned], laidTests := true, laidLooks := .later }
def NegoAgainCardSaid : Prop := Claim7.holds Tryz.pinned (.plain (OpenSpec.ofChange negoAgainSpec)) negoAgainCard

/-- THE TIED CARD OF 'muleteerlaw18.NegoAsk'. -/
def negoAskCard : Claim7 := { stood := { row := negoAskRow, standIns := [], harness := (true, "e05582a8d85470a551641c6c261e01f52de1cd47a83029be1bb392f81a3a7f51"), looks := true }, kinds := [], alts := [], laidByText := true, laidKinds := [.data, .data, .data, .data, .data, .pinned], laidTests := true, laidLooks := .later }
def NegoAskCardSaid : Prop := Claim7.holds Tryz.pinned (.plain (OpenSpec.ofChange negoAskSpec)) negoAskCard

/-- THE TIED CARD OF 'muleteerlaw18.QueueAll'. -/
def queueAllCard : Claim7 := { stood := { row := queueAllRow, standIns := [], harness := (true, "e05582a8d85470a551641c6c261e01f52de1cd47a83029be1bb392f81a3a7f51"), looks := true }, kinds := [], alts := [], laidByText := true, laidKinds := [.data, .data, .data, .data, .data, .pinned], laidTests := true, laidLooks := .later }
def QueueAllCardSaid : Prop := Claim7.holds Tryz.pinned (.plain (OpenSpec.ofChange queueAllSpec)) queueAllCard

/-- THE TIED CARD OF 'muleteerlaw18.NegoTwo'. -/
def negoTwoCard : Claim7 := { stood := { row := negoTwoRow, standIns := [], harness := (true, "e05582a8d85470a551641c6c261e01f52de1cd47a83029be1bb392f81a3a7f51"), looks := true }, kinds := [], alts := [], laidByText := true, laidKinds := [.data, .data, .data, .data, .data, .pinned], laidTests := true, laidLooks := .later }
def NegoTwoCardSaid : Prop := Claim7.holds Tryz.pinned (.plain (OpenSpec.ofChange negoTwoSpec)) negoTwoCard

/-- THE SECOND FORM's CARD OF 'muleteerlaw18.PaceAll'. -/
def paceAllUptoCard : Claim7 := { stood := { row := paceAllUptoRow, standIns := [], harness := (true, "e05582a8d85470a551641c6c261e01f52de1cd47a83029be1bb392f81a3a7f51"), looks := true }, kinds := [], alts := [], laidByText := true, laidKinds := [.data, .data, .data, .data, .data, .pinned], laidTests := true, laidLooks := .later }
def PaceAllUptoCardSaid : Prop := Claim7.holds Tryz.pinned (.plain (OpenSpec.upto paceAllSpec)) paceAllUptoCard

/-- THE SECOND FORM's CARD OF 'muleteerlaw18.PaceBound'. -/
def paceBoundUptoCard : Claim7 := { stood := { row := paceBoundUptoRow, standIns := [], harness := (true, "e05582a8d85470a551641c6c261e01f52de1cd47a83029be1bb392f81a3a7f51"), looks := true }, kinds := [], alts := [], laidByText := true, laidKinds := [.data, .data, .data, .data, .data, .pinned], laidTests := true, laidLooks := .later }
def PaceBoundUptoCardSaid : Prop := Claim7.holds Tryz.pinned (.plain (OpenSpec.upto paceBoundSpec)) paceBoundUptoCard

/-- THE SECOND FORM's CARD OF 'muleteerlaw18.PaceWhen'. -/
def paceWhenUptoCard : Claim7 := { stood := { row := paceWhenUptoRow, standIns := [], harness := (true, "e05582a8d85470a551641c6c261e01f52de1cd47a83029be1bb392f81a3a7f51"), looks := true }, kinds := [], alts := [], laidByText := true, laidKinds := [.data, .data, .data, .data, .data, .pinned], laidTests := true, laidLooks := .later }
def PaceWhenUptoCardSaid : Prop := Claim7.holds Tryz.pinned (.plain (OpenSpec.upto paceWhenSpec)) paceWhenUptoCard

/-- THE SECOND FORM's CARD OF 'muleteerlaw18.PaceFull'. -/
def paceFullUptoCard : Claim7 := { stood := { row := paceFullUptoRow, standIns := [], harness := (true, "e05582a8d85470a551641c6c261e01f52de1cd47a83029be1bb392f81a3a7f51"), looks := true }, kinds := [], alts := [], laidByText := true, laidKinds := [.data, .data, .data, .data, .data, .pinned], laidTests := true, laidLooks := .later }
def PaceFullUptoCardSaid : Prop := Claim7.holds Tryz.pinned (.plain (OpenSpec.upto paceFullSpec)) paceFullUptoCard

/-- THE SECOND FORM's CARD OF 'muleteerlaw18.PaceFall'. -/
def paceFallUptoCard : Claim7 := { stood := { row := paceFallUptoRow, standIns := [], harness := (true, "e05582a8d85470a551641c6c261e01f52de1cd47a83029be1bb392f81a3a7f51"), looks := true }, kinds := [], alts := [], laidByText := true, laidKinds := [.data, .data, .data, .data, .data, .pinned], laidTests := true, laidLooks := .later }
def PaceFallUptoCardSaid : Prop := Claim7.holds Tryz.pinned (.plain (OpenSpec.upto paceFallSpec)) paceFallUptoCard

/-- THE SECOND FORM's CARD OF 'muleteerlaw18.FeatChoose'. -/
def featChooseUptoCard : Claim7 := { stood := { row := featChooseUptoRow, standIns := [], harness := (true, "e05582a8d85470a551641c6c261e01f52de1cd47a83029be1bb392f81a3a7f51"), looks := true }, kinds := [], alts := [], laidByText := true, laidKinds := [.data, .data, .data, .data, .data, .pinned], laidTests := true, laidLooks := .later }
def FeatChooseUptoCardSaid : Prop := Claim7.holds Tryz.pinned (.plain (OpenSpec.upto featChooseSpec)) featChooseUptoCard

/-- THE SECOND FORM's CARD OF 'muleteerlaw18.NegoBad'. -/
def negoBadUptoCard : Claim7 := { stood := { row := negoBadUptoRow, standIns := [], harness := (true, "e05582a8d85470a551641c6c261e01f52de1cd47a83029be1bb392f81a3a7f51"), looks := true }, kinds := [], alts := [], laidByText := true, laidKinds := [.data, .data, .data, .data, .data, .pinned], laidTests := true, laidLooks := .later }
def NegoBadUptoCardSaid : Prop := Claim7.holds Tryz.pinned (.plain (OpenSpec.upto negoBadSpec)) negoBadUptoCard

/-- THE SECOND FORM's CARD OF 'muleteerlaw18.NegoMust'. -/
def negoMustUptoCard : Claim7 := { stood := { row := negoMustUptoRow, standIns := [], harness := (true, "e05582a8d85470a551641c6c261e01f52de1cd47a83029be1bb392f81a3a7f51"), looks := true }, kinds := [], alts := [], laidByText := true, laidKinds := [.data, .data, .data, .data, .data, .pinned], laidTests := true, laidLooks := .later }
def NegoMustUptoCardSaid : Prop := Claim7.holds Tryz.pinned (.plain (OpenSpec.upto negoMustSpec)) negoMustUptoCard

/-- THE SECOND FORM's CARD OF 'muleteerlaw18.NegoAgain'. -/
def negoAgainUptoCard : Claim7 := { stood := { row := negoAgainUptoRow, standIns := [], harness := (true, "e05582a8d85470a551641c6c261e01f52de1cd47a83029be1bb392f81a3a7f51"), looks := true }, kinds := [], alts := [], laidByText := true, laidKinds := [.data, .data, .data, .data, .data, .pinned], laidTests := true, laidLooks := .later }
def NegoAgainUptoCardSaid : Prop := Claim7.holds Tryz.pinned (.plain (OpenSpec.upto negoAgainSpec)) negoAgainUptoCard

/-- THE SECOND FORM's CARD OF 'muleteerlaw18.NegoAsk'. -/
def negoAskUptoCard : Claim7 := { stood := { row := negoAskUptoRow, standIns := [], harness := (true, "e05582a8d85470a551641c6c261e01f52de1cd47a83029be1bb392f81a3a7f51"), looks := true }, kinds := [], alts := [], laidByText := true, laidKinds := [.data, .data, .data, .data, .data, .pinned], laidTests := true, laidLooks := .later }
def NegoAskUptoCardSaid : Prop := Claim7.holds Tryz.pinned (.plain (OpenSpec.upto negoAskSpec)) negoAskUptoCard

/-- THE SECOND FORM's CARD OF 'muleteerlaw18.QueueAll'. -/
def queueAllUptoCard : Claim7 := { stood := { row := queueAllUptoRow, standIns := [], harness := (true, "e05582a8d85470a551641c6c261e01f52de1cd47a83029be1bb392f81a3a7f51"), looks := true }, kinds := [], alts := [], laidByText := true, laidKinds := [.data, .data, .data, .data, .data, .pinned], laidTests := true, laidLooks := .later }
def QueueAllUptoCardSaid : Prop := Claim7.holds Tryz.pinned (.plain (OpenSpec.upto queueAllSpec)) queueAllUptoCard

/-- THE SECOND FORM's CARD OF 'muleteerlaw18.NegoTwo'. -/
def negoTwoUptoCard : Claim7 := { stood := { row := negoTwoUptoRow, standIns := [], harness := (true, "e05582a8d85470a551641c6c261e01f52de1cd47a83029be1bb392f81a3a7f51"), looks := true }, kinds := [], alts := [], laidByText := true, laidKinds := [.data, .data, .data, .data, .data, .pinned], laidTests := true, laidLooks := .later }
def NegoTwoUptoCardSaid : Prop := Claim7.holds Tryz.pinned (.plain (OpenSpec.upto negoTwoSpec)) negoTwoUptoCard
end Rows
end Go.Proofs.YtfmnpepgmedfpaaGreatDoor
