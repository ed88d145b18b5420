/-
  DERIVED. GIVEN WITH THE SEED: THE CARDS: each row of YtbiglbclifbmhaaGreatDoorRows.lean that lists a variable, with what it lists TIED to the program's text (the seventh form; the later family's looks); each row that meets fmt, with fmt's text TOLD by the authors' own Lean function (tested against real Go, not proved from fmt's source: count such statements apart). THE CARD IS WHAT COUNTS. Prove the row's statement (the work); the ties are given (YtbiglbclifbmhaaGreatDoorTie.lean); close each card by the builder's one call (the guide's Derived/Test/ToyasCard.lean, 'card_holds'). Laid BY PROGRAM, IN A SANDBOX (cutbox-door.mjs). By AI agents, Wed Nov 11 2026. No macro, syntax, notation, axiom, sorry.
-/
import Derived.Test.YtbiglbclifbmhaaGreatDoorRows
import GoSem.ClaimSeven
namespace Go.Proofs.YtbiglbclifbmhaaGreatDoor
namespace Rows

/-- THE TIED CARD OF 'muleteerlaw8.FeedHoles'. -/
def feedHolesCard : Claim7 := { stood := { row := feedHolesRow, standIns := [], harness := (true, "334d401da53ce350b04278b4b7deca826b720138bc364e16bad1cfd0af888e1c"), looks := false }, kinds := [], alts := [], laidByText := true, laidKinds := [.data, .data, .data, .data, .data, .pinned], laidTests := true, laidLooks := .later }
def FeedHolesCardSaid : Prop := Claim7.holds Tryz.pinned (.plain (OpenSpec.ofChange feedHolesSpec)) feedHolesCard

/-- THE TIED CARD OF 'muleteerlaw8.FeedRound'. -/
def feedRoundCard : Claim7 := { stood := { row := feedRoundRow, standIns := [], harness := (true, "334d401da53ce350b04278b4b7deca826b720138bc364e16bad1cfd0af888e1c"), looks := false }, kinds := [], alts := [], laidByText := true, laidKinds := [.data, .data, .data, .data, .data, .pinned], laidTests := true, laidLooks := .later }
def FeedRoundCardSaid : Prop := Claim7.holds Tryz.pinned (.plain (OpenSpec.ofChange feedRoundSpec)) feedRoundCard

/-- THE SECOND FORM's CARD OF 'muleteerlaw8.FeedHoles'. -/
def feedHolesUptoCard : Claim7 := { stood := { row := feedHolesUptoRow, standIns := [], harness := (true, "334d401da53ce350b04278b4b7deca826b720138bc364e16bad1cfd0af888e1c"), looks := false }, kinds := [], alts := [], laidByText := true, laidKinds := [.data, .data, .data, .data, .data, .pinned], laidTests := true, laidLooks := .later }
def FeedHolesUptoCardSaid : Prop := Claim7.holds Tryz.pinned (.plain (OpenSpec.upto feedHolesSpec)) feedHolesUptoCard

/-- THE SECOND FORM's CARD OF 'muleteerlaw8.FeedRound'. -/
def feedRoundUptoCard : Claim7 := { stood := { row := feedRoundUptoRow, standIns := [], harness := (true, "334d401da53ce350b04278b4b7deca826b720138bc364e16bad1cfd0af888e1c"), looks := false }, kinds := [], alts := [], laidByText := true, laidKinds := [.data, .data, .data, .data, .data, .pinned], laidTests := true, laidLooks := .later }
def FeedRoundUptoCardSaid : Prop := Claim7.holds Tryz.pinned (.plain (OpenSpec.upto feedRoundSpec)) feedRoundUptoCard
end Rows
end Go.Proofs.YtbiglbclifbmhaaGreatDoor
