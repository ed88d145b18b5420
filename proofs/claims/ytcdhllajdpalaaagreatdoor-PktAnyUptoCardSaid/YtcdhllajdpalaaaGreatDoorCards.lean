/-
  DERIVED. GIVEN WITH THE SEED: THE CARDS: each row of YtcdhllajdpalaaaGreatDoorRows.lean that lists a variable, with what it lists TIED to the program's text (the seventh form; the later family's looks); each row that meets fmt, with fmt's text TOLD by the authors' own Lean function (tested against real Go, not proved from fmt's source: count such statements apart). THE CARD IS WHAT COUNTS. Prove the row's statement (the work); the ties are given (YtcdhllajdpalaaaGreatDoorTie.lean); close each card by the builder's one call (the guide's Derived/Test/ToyasCard.lean, 'card_holds'). Laid BY PROGRAM, IN A SANDBOX (cutbox-door.mjs). By AI agents, Wed Nov 11 2026. No macro, syntax, notation, axiom, sorry.
-/
import Derived.Test.YtcdhllajdpalaaaGreatDoorRows
import GoSem.ClaimSeven
namespace Go.Proofs.YtcdhllajdpalaaaGreatDoor
namespace Rows

/-- THE TIED CARD OF 'muleteerlaw1.HeadAll'. -/
def headAllCard : Claim7 := { stood := { row := headAllRow, standIns := [], harness := (true, "d7ad57017d5dfeb9806a2f7e4eb5ff9b49ddd0ef91e60bcbb3a92ecc8c4bcc97"), looks := false }, kinds := [], alts := [], laidByText := true, laidKinds := [.data, .data, .data, .data, .pinned], laidTests := true, laidLooks := .later }
def HeadAllCardSaid : Prop := Claim7.holds Tryz.pinned (.plain (OpenSpec.ofChange headAllSpec)) headAllCard

/-- THE TIED CARD OF 'muleteerlaw1.PktAny'. -/
def pktAnyCard : Claim7 := { stood := { row := pktAnyRow, standIns := [], harness := (true, "d7ad57017d5dfeb9806a2f7e4eb5ff9b49ddd0ef91e60bcbb3a92ecc8c4bcc97"), looks := false }, kinds := [], alts := [], laidByText := true, laidKinds := [.data, .data, .data, .data, .pinned], laidTests := true, laidLooks := .later }
def PktAnyCardSaid : Prop := Claim7.holds Tryz.pinned (.plain (OpenSpec.ofChange pktAnySpec)) pktAnyCard

/-- THE SECOND FORM's CARD OF 'muleteerlaw1.HeadAll'. -/
def headAllUptoCard : Claim7 := { stood := { row := headAllUptoRow, standIns := [], harness := (true, "d7ad57017d5dfeb9806a2f7e4eb5ff9b49ddd0ef91e60bcbb3a92ecc8c4bcc97"), looks := false }, kinds := [], alts := [], laidByText := true, laidKinds := [.data, .data, .data, .data, .pinned], laidTests := true, laidLooks := .later }
def HeadAllUptoCardSaid : Prop := Claim7.holds Tryz.pinned (.plain (OpenSpec.upto headAllSpec)) headAllUptoCard

/-- THE SECOND FORM's CARD OF 'muleteerlaw1.PktAny'. -/
def pktAnyUptoCard : Claim7 := { stood := { row := pktAnyUptoRow, standIns := [], harness := (true, "d7ad57017d5dfeb9806a2f7e4eb5ff9b49ddd0ef91e60bcbb3a92ecc8c4bcc97"), looks := false }, kinds := [], alts := [], laidByText := true, laidKinds := [.data, .data, .data, .data, .pinned], laidTests := true, laidLooks := .later }
def PktAnyUptoCardSaid : Prop := Claim7.holds Tryz.pinned (.plain (OpenSpec.upto pktAnySpec)) pktAnyUptoCard
end Rows
end Go.Proofs.YtcdhllajdpalaaaGreatDoor
