/-
  DERIVED. GIVEN WITH THE SEED: THE CARDS: each row of YtjbcjcfmjagbkaaGreatDoorRows.lean that lists a variable, with what it lists TIED to the program's text (the seventh form; the later family's looks); each row that meets fmt, with fmt's text TOLD by the authors' own Lean function (tested against real Go, not proved from fmt's source: count such statements apart). THE CARD IS WHAT COUNTS. Prove the row's statement (the work); the ties are given (YtjbcjcfmjagbkaaGreatDoorTie.lean); close each card by the builder's one call (the guide's Derived/Test/ToyasCard.lean, 'card_holds'). Laid BY PROGRAM, IN A SANDBOX (cutbox-door.mjs). By AI agents, Wed Nov 11 2026. No macro, syntax, notation, axiom, sorry.
-/
import Derived.Test.YtjbcjcfmjagbkaaGreatDoorRows
import GoSem.ClaimSeven
namespace Go.Proofs.YtjbcjcfmjagbkaaGreatDoor
namespace Rows

/-- THE TIED CARD OF 'muleteerlaw1.HeadAll'. -/
def headAllCard : Claim7 := { stood := { row := headAllRow, standIns := [], harness := (true, "ec6e720e4a193eec840766394763f7d2c798b75cbf19ad05b96d30bf30913184"), looks := false }, kinds := [], alts := [], laidByText := true, laidKinds := [.data, .data, .data, .data, .pinned], laidTests := true, laidLooks := .later }
def HeadAllCardSaid : Prop := Claim7.holds Tryz.pinned (.plain (OpenSpec.ofChange headAllSpec)) headAllCard

/-- THE TIED CARD OF 'muleteerlaw1.CodeAll'. -/
def codeAllCard : Claim7 := { stood := { row := codeAllRow, standIns := [], harness := (true, "ec6e720e4a193eec840766394763f7d2c798b75cbf19ad05b96d30bf30913184"), looks := false }, kinds := [], alts := [], laidByText := true, laidKinds := [.data, .data, .data, .data, .pinned], laidTests := true, laidLooks := .later }
def CodeAllCardSaid : Prop := Claim7.holds Tryz.pinned (.plain (OpenSpec.ofChange codeAllSpec)) codeAllCard

/-- THE TIED CARD OF 'muleteerlaw1.CodeRunes'. -/
def codeRunesCard : Claim7 := { stood := { row := codeRunesRow, standIns := [], harness := (true, "ec6e720e4a193eec840766394763f7d2c798b75cbf19ad05b96d30bf30913184"), looks := false }, kinds := [], alts := [], laidByText := true, laidKinds := [.data, .data, .data, .data, .pinned], laidTests := true, laidLooks := .later }
def CodeRunesCardSaid : Prop := Claim7.holds Tryz.pinned (.plain (OpenSpec.ofChange codeRunesSpec)) codeRunesCard

/-- THE TIED CARD OF 'muleteerlaw1.PktAll'. -/
def pktAllCard : Claim7 := { stood := { row := pktAllRow, standIns := [], harness := (true, "ec6e720e4a193eec840766394763f7d2c798b75cbf19ad05b96d30bf30913184"), looks := false }, kinds := [], alts := [], laidByText := true, laidKinds := [.data, .data, .data, .data, .pinned], laidTests := true, laidLooks := .later }
def PktAllCardSaid : Prop := Claim7.holds Tryz.pinned (.plain (OpenSpec.ofChange pktAllSpec)) pktAllCard

/-- THE TIED CARD OF 'muleteerlaw1.PktAny'. -/
def pktAnyCard : Claim7 := { stood := { row := pktAnyRow, standIns := [], harness := (true, "ec6e720e4a193eec840766394763f7d2c798b75cbf19ad05b96d30bf30913184"), looks := false }, kinds := [], alts := [], laidByText := true, laidKinds := [.data, .data, .data, .data, .pinned], laidTests := true, laidLooks := .later }
def PktAnyCardSaid : Prop := Claim7.holds Tryz.pinned (.plain (OpenSpec.ofChange pktAnySpec)) pktAnyCard

/-- THE TIED CARD OF 'muleteerlaw1.PktBit'. -/
def pktBitCard : Claim7 := { stood := { row := pktBitRow, standIns := [], harness := (true, "ec6e720e4a193eec840766394763f7d2c798b75cbf19ad05b96d30bf30913184"), looks := false }, kinds := [], alts := [], laidByText := true, laidKinds := [.data, .data, .data, .data, .pinned], laidTests := true, laidLooks := .later }
def PktBitCardSaid : Prop := Claim7.holds Tryz.pinned (.plain (OpenSpec.ofChange pktBitSpec)) pktBitCard

/-- THE TIED CARD OF 'muleteerlaw1.PktNone'. -/
def pktNoneCard : Claim7 := { stood := { row := pktNoneRow, standIns := [], harness := (true, "ec6e720e4a193eec840766394763f7d2c798b75cbf19ad05b96d30bf30913184"), looks := false }, kinds := [], alts := [], laidByText := true, laidKinds := [.data, .data, .data, .data, .pinned], laidTests := true, laidLooks := .later }
def PktNoneCardSaid : Prop := Claim7.holds Tryz.pinned (.plain (OpenSpec.ofChange pktNoneSpec)) pktNoneCard

/-- THE TIED CARD OF 'muleteerlaw1.HeadLoose'. -/
def headLooseCard : Claim7 := { stood := { row := headLooseRow, standIns := [], harness := (true, "ec6e720e4a193eec840766394763f7d2c798b75cbf19ad05b96d30bf30913184"), looks := false }, kinds := [], alts := [], laidByText := true, laidKinds := [.data, .data, .data, .data, .pinned], laidTests := true, laidLooks := .later }
def HeadLooseCardSaid : Prop := Claim7.holds Tryz.pinned (.plain (OpenSpec.ofChange headLooseSpec)) headLooseCard

/-- THE TIED CARD OF 'muleteerlaw1.CodeForms'. -/
def codeFormsCard : Claim7 := { stood := { row := codeFormsRow, standIns := [], harness := (true, "ec6e720e4a193eec840766394763f7d2c798b75cbf19ad05b96d30bf30913184"), looks := false }, kinds := [], alts := [], laidByText := true, laidKinds := [.data, .data, .data, .data, .pinned], laidTests := true, laidLooks := .later }
def CodeFormsCardSaid : Prop := Claim7.holds Tryz.pinned (.plain (OpenSpec.ofChange codeFormsSpec)) codeFormsCard

/-- THE TIED CARD OF 'muleteerlaw1.CodeReason'. -/
def codeReasonCard : Claim7 := { stood := { row := codeReasonRow, standIns := [], harness := (true, "ec6e720e4a193eec840766394763f7d2c798b75cbf19ad05b96d30bf30913184"), looks := false }, kinds := [], alts := [], laidByText := true, laidKinds := [.data, .data, .data, .data, .pinned], laidTests := true, laidLooks := .later }
def CodeReasonCardSaid : Prop := Claim7.holds Tryz.pinned (.plain (OpenSpec.ofChange codeReasonSpec)) codeReasonCard

/-- THE TIED CARD OF 'muleteerlaw1.PktCover'. -/
def pktCoverCard : Claim7 := { stood := { row := pktCoverRow, standIns := [], harness := (true, "ec6e720e4a193eec840766394763f7d2c798b75cbf19ad05b96d30bf30913184"), looks := false }, kinds := [], alts := [], laidByText := true, laidKinds := [.data, .data, .data, .data, .pinned], laidTests := true, laidLooks := .later }
def PktCoverCardSaid : Prop := Claim7.holds Tryz.pinned (.plain (OpenSpec.ofChange pktCoverSpec)) pktCoverCard

/-- THE TIED CARD OF 'muleteerlaw1.PktLarge'. -/
def pktLargeCard : Claim7 := { stood := { row := pktLargeRow, standIns := [], harness := (true, "ec6e720e4a193eec840766394763f7d2c798b75cbf19ad05b96d30bf30913184"), looks := false }, kinds := [], alts := [], laidByText := true, laidKinds := [.data, .data, .data, .data, .pinned], laidTests := true, laidLooks := .later }
def PktLargeCardSaid : Prop := Claim7.holds Tryz.pinned (.plain (OpenSpec.ofChange pktLargeSpec)) pktLargeCard

/-- THE TIED CARD OF 'muleteerlaw1.PktTypes'. -/
def pktTypesCard : Claim7 := { stood := { row := pktTypesRow, standIns := [], harness := (true, "ec6e720e4a193eec840766394763f7d2c798b75cbf19ad05b96d30bf30913184"), looks := false }, kinds := [], alts := [], laidByText := true, laidKinds := [.data, .data, .data, .data, .pinned], laidTests := true, laidLooks := .later }
def PktTypesCardSaid : Prop := Claim7.holds Tryz.pinned (.plain (OpenSpec.ofChange pktTypesSpec)) pktTypesCard

/-- THE TIED CARD OF 'muleteerlaw1.CodeSigns'. -/
def codeSignsCard : Claim7 := { stood := { row := codeSignsRow, standIns := [], harness := (true, "ec6e720e4a193eec840766394763f7d2c798b75cbf19ad05b96d30bf30913184"), looks := false }, kinds := [], alts := [], laidByText := true, laidKinds := [.data, .data, .data, .data, .pinned], laidTests := true, laidLooks := .later }
def CodeSignsCardSaid : Prop := Claim7.holds Tryz.pinned (.plain (OpenSpec.ofChange codeSignsSpec)) codeSignsCard

/-- THE SECOND FORM's CARD OF 'muleteerlaw1.HeadAll'. -/
def headAllUptoCard : Claim7 := { stood := { row := headAllUptoRow, standIns := [], harness := (true, "ec6e720e4a193eec840766394763f7d2c798b75cbf19ad05b96d30bf30913184"), looks := false }, kinds := [], alts := [], laidByText := true, laidKinds := [.data, .data, .data, .data, .pinned], laidTests := true, laidLooks := .later }
def HeadAllUptoCardSaid : Prop := Claim7.holds Tryz.pinned (.plain (OpenSpec.upto headAllSpec)) headAllUptoCard

/-- THE SECOND FORM's CARD OF 'muleteerlaw1.CodeAll'. -/
def codeAllUptoCard : Claim7 := { stood := { row := codeAllUptoRow, standIns := [], harness := (true, "ec6e720e4a193eec840766394763f7d2c798b75cbf19ad05b96d30bf30913184"), looks := false }, kinds := [], alts := [], laidByText := true, laidKinds := [.data, .data, .data, .data, .pinned], laidTests := true, laidLooks := .later }
def CodeAllUptoCardSaid : Prop := Claim7.holds Tryz.pinned (.plain (OpenSpec.upto codeAllSpec)) codeAllUptoCard

/-- THE SECOND FORM's CARD OF 'muleteerlaw1.CodeRunes'. -/
def codeRunesUptoCard : Claim7 := { stood := { row := codeRunesUptoRow, standIns := [], harness := (true, "ec6e720e4a193eec840766394763f7d2c798b75cbf19ad05b96d30bf30913184"), looks := false }, kinds := [], alts := [], laidByText := true, laidKinds := [.data, .data, .data, .data, .pinned], laidTests := true, laidLooks := .later }
def CodeRunesUptoCardSaid : Prop := Claim7.holds Tryz.pinned (.plain (OpenSpec.upto codeRunesSpec)) codeRunesUptoCard

/-- THE SECOND FORM's CARD OF 'muleteerlaw1.PktAll'. -/
def pktAllUptoCard : Claim7 := { stood := { row := pktAllUptoRow, standIns := [], harness := (true, "ec6e720e4a193eec840766394763f7d2c798b75cbf19ad05b96d30bf30913184"), looks := false }, kinds := [], alts := [], laidByText := true, laidKinds := [.data, .data, .data, .data, .pinned], laidTests := true, laidLooks := .later }
def PktAllUptoCardSaid : Prop := Claim7.holds Tryz.pinned (.plain (OpenSpec.upto pktAllSpec)) pktAllUptoCard

/-- THE SECOND FORM's CARD OF 'muleteerlaw1.PktAny'. -/
def pktAnyUptoCard : Claim7 := { stood := { row := pktAnyUptoRow, standIns := [], harness := (true, "ec6e720e4a193eec840766394763f7d2c798b75cbf19ad05b96d30bf30913184"), looks := false }, kinds := [], alts := [], laidByText := true, laidKinds := [.data, .data, .data, .data, .pinned], laidTests := true, laidLooks := .later }
def PktAnyUptoCardSaid : Prop := Claim7.holds Tryz.pinned (.plain (OpenSpec.upto pktAnySpec)) pktAnyUptoCard

/-- THE SECOND FORM's CARD OF 'muleteerlaw1.PktBit'. -/
def pktBitUptoCard : Claim7 := { stood := { row := pktBitUptoRow, standIns := [], harness := (true, "ec6e720e4a193eec840766394763f7d2c798b75cbf19ad05b96d30bf30913184"), looks := false }, kinds := [], alts := [], laidByText := true, laidKinds := [.data, .data, .data, .data, .pinned], laidTests := true, laidLooks := .later }
def PktBitUptoCardSaid : Prop := Claim7.holds Tryz.pinned (.plain (OpenSpec.upto pktBitSpec)) pktBitUptoCard

/-- THE SECOND FORM's CARD OF 'muleteerlaw1.PktNone'. -/
def pktNoneUptoCard : Claim7 := { stood := { row := pktNoneUptoRow, standIns := [], harness := (true, "ec6e720e4a193eec840766394763f7d2c798b75cbf19ad05b96d30bf30913184"), looks := false }, kinds := [], alts := [], laidByText := true, laidKinds := [.data, .data, .data, .data, .pinned], laidTests := true, laidLooks := .later }
def PktNoneUptoCardSaid : Prop := Claim7.holds Tryz.pinned (.plain (OpenSpec.upto pktNoneSpec)) pktNoneUptoCard

/-- THE SECOND FORM's CARD OF 'muleteerlaw1.HeadLoose'. -/
def headLooseUptoCard : Claim7 := { stood := { row := headLooseUptoRow, standIns := [], harness := (true, "ec6e720e4a193eec840766394763f7d2c798b75cbf19ad05b96d30bf30913184"), looks := false }, kinds := [], alts := [], laidByText := true, laidKinds := [.data, .data, .data, .data, .pinned], laidTests := true, laidLooks := .later }
def HeadLooseUptoCardSaid : Prop := Claim7.holds Tryz.pinned (.plain (OpenSpec.upto headLooseSpec)) headLooseUptoCard

/-- THE SECOND FORM's CARD OF 'muleteerlaw1.CodeForms'. -/
def codeFormsUptoCard : Claim7 := { stood := { row := codeFormsUptoRow, standIns := [], harness := (true, "ec6e720e4a193eec840766394763f7d2c798b75cbf19ad05b96d30bf30913184"), looks := false }, kinds := [], alts := [], laidByText := true, laidKinds := [.data, .data, .data, .data, .pinned], laidTests := true, laidLooks := .later }
def CodeFormsUptoCardSaid : Prop := Claim7.holds Tryz.pinned (.plain (OpenSpec.upto codeFormsSpec)) codeFormsUptoCard

/-- THE SECOND FORM's CARD OF 'muleteerlaw1.CodeReason'. -/
def codeReasonUptoCard : Claim7 := { stood := { row := codeReasonUptoRow, standIns := [], harness := (true, "ec6e720e4a193eec840766394763f7d2c798b75cbf19ad05b96d30bf30913184"), looks := false }, kinds := [], alts := [], laidByText := true, laidKinds := [.data, .data, .data, .data, .pinned], laidTests := true, laidLooks := .later }
def CodeReasonUptoCardSaid : Prop := Claim7.holds Tryz.pinned (.plain (OpenSpec.upto codeReasonSpec)) codeReasonUptoCard

/-- THE SECOND FORM's CARD OF 'muleteerlaw1.PktCover'. -/
def pktCoverUptoCard : Claim7 := { stood := { row := pktCoverUptoRow, standIns := [], harness := (true, "ec6e720e4a193eec840766394763f7d2c798b75cbf19ad05b96d30bf30913184"), looks := false }, kinds := [], alts := [], laidByText := true, laidKinds := [.data, .data, .data, .data, .pinned], laidTests := true, laidLooks := .later }
def PktCoverUptoCardSaid : Prop := Claim7.holds Tryz.pinned (.plain (OpenSpec.upto pktCoverSpec)) pktCoverUptoCard

/-- THE SECOND FORM's CARD OF 'muleteerlaw1.PktLarge'. -/
def pktLargeUptoCard : Claim7 := { stood := { row := pktLargeUptoRow, standIns := [], harness := (true, "ec6e720e4a193eec840766394763f7d2c798b75cbf19ad05b96d30bf30913184"), looks := false }, kinds := [], alts := [], laidByText := true, laidKinds := [.data, .data, .data, .data, .pinned], laidTests := true, laidLooks := .later }
def PktLargeUptoCardSaid : Prop := Claim7.holds Tryz.pinned (.plain (OpenSpec.upto pktLargeSpec)) pktLargeUptoCard

/-- THE SECOND FORM's CARD OF 'muleteerlaw1.PktTypes'. -/
def pktTypesUptoCard : Claim7 := { stood := { row := pktTypesUptoRow, standIns := [], harness := (true, "ec6e720e4a193eec840766394763f7d2c798b75cbf19ad05b96d30bf30913184"), looks := false }, kinds := [], alts := [], laidByText := true, laidKinds := [.data, .data, .data, .data, .pinned], laidTests := true, laidLooks := .later }
def PktTypesUptoCardSaid : Prop := Claim7.holds Tryz.pinned (.plain (OpenSpec.upto pktTypesSpec)) pktTypesUptoCard

/-- THE SECOND FORM's CARD OF 'muleteerlaw1.CodeSigns'. -/
def codeSignsUptoCard : Claim7 := { stood := { row := codeSignsUptoRow, standIns := [], harness := (true, "ec6e720e4a193eec840766394763f7d2c798b75cbf19ad05b96d30bf30913184"), looks := false }, kinds := [], alts := [], laidByText := true, laidKinds := [.data, .data, .data, .data, .pinned], laidTests := true, laidLooks := .later }
def CodeSignsUptoCardSaid : Prop := Claim7.holds Tryz.pinned (.plain (OpenSpec.upto codeSignsSpec)) codeSignsUptoCard
end Rows
end Go.Proofs.YtjbcjcfmjagbkaaGreatDoor
