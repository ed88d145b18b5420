/-
  DERIVED. GIVEN WITH THE SEED: THE CARDS: each row of YtagnbggldpjncaaGreatDoorRows.lean that lists a variable, with what it lists TIED to the program's text (the seventh form; the later family's looks); each row that meets fmt, with fmt's text TOLD by the authors' own Lean function (tested against real Go, not proved from fmt's source: count such statements apart). THE CARD IS WHAT COUNTS. Prove the row's statement (the work); the ties are given (YtagnbggldpjncaaGreatDoorTie.lean); close each card by the builder's one call (the guide's Derived/Test/ToyasCard.lean, 'card_holds'). Laid BY PROGRAM, IN A SANDBOX (cutbox-door.mjs). By AI agents, Wed Nov 11 2026. No macro, syntax, notation, axiom, sorry.
-/
import Derived.Test.YtagnbggldpjncaaGreatDoorRows
import GoSem.ClaimSeven
namespace Go.Proofs.YtagnbggldpjncaaGreatDoor
namespace Rows

/-- THE TIED CARD OF 'muleteerlaw1.FixAll'. -/
def fixAllCard : Claim7 := { stood := { row := fixAllRow, standIns := [], harness := (true, "f1a82a4da44c2ba3121d129ec2c6c2d122701cf099ea85615d6c9ce2db9e88e2"), looks := false }, kinds := [], alts := [], laidByText := true, laidKinds := [.data, .data, .data, .data, .pinned], laidTests := true, laidLooks := .later }
def FixAllCardSaid : Prop := Claim7.holds Tryz.pinned (.plain (OpenSpec.ofChange fixAllSpec)) fixAllCard

/-- THE TIED CARD OF 'muleteerlaw1.FixRoot'. -/
def fixRootCard : Claim7 := { stood := { row := fixRootRow, standIns := [], harness := (true, "f1a82a4da44c2ba3121d129ec2c6c2d122701cf099ea85615d6c9ce2db9e88e2"), looks := false }, kinds := [], alts := [], laidByText := true, laidKinds := [.data, .data, .data, .data, .pinned], laidTests := true, laidLooks := .later }
def FixRootCardSaid : Prop := Claim7.holds Tryz.pinned (.plain (OpenSpec.ofChange fixRootSpec)) fixRootCard

/-- THE TIED CARD OF 'muleteerlaw1.FixQuot'. -/
def fixQuotCard : Claim7 := { stood := { row := fixQuotRow, standIns := [], harness := (true, "f1a82a4da44c2ba3121d129ec2c6c2d122701cf099ea85615d6c9ce2db9e88e2"), looks := false }, kinds := [], alts := [], laidByText := true, laidKinds := [.data, .data, .data, .data, .pinned], laidTests := true, laidLooks := .later }
def FixQuotCardSaid : Prop := Claim7.holds Tryz.pinned (.plain (OpenSpec.ofChange fixQuotSpec)) fixQuotCard

/-- THE TIED CARD OF 'muleteerlaw1.SeqAll'. -/
def seqAllCard : Claim7 := { stood := { row := seqAllRow, standIns := [], harness := (true, "f1a82a4da44c2ba3121d129ec2c6c2d122701cf099ea85615d6c9ce2db9e88e2"), looks := false }, kinds := [], alts := [], laidByText := true, laidKinds := [.data, .data, .data, .data, .pinned], laidTests := true, laidLooks := .later }
def SeqAllCardSaid : Prop := Claim7.holds Tryz.pinned (.plain (OpenSpec.ofChange seqAllSpec)) seqAllCard

/-- THE TIED CARD OF 'muleteerlaw1.SeqMax'. -/
def seqMaxCard : Claim7 := { stood := { row := seqMaxRow, standIns := [], harness := (true, "f1a82a4da44c2ba3121d129ec2c6c2d122701cf099ea85615d6c9ce2db9e88e2"), looks := false }, kinds := [], alts := [], laidByText := true, laidKinds := [.data, .data, .data, .data, .pinned], laidTests := true, laidLooks := .later }
def SeqMaxCardSaid : Prop := Claim7.holds Tryz.pinned (.plain (OpenSpec.ofChange seqMaxSpec)) seqMaxCard

/-- THE TIED CARD OF 'muleteerlaw1.SeqShort'. -/
def seqShortCard : Claim7 := { stood := { row := seqShortRow, standIns := [], harness := (true, "f1a82a4da44c2ba3121d129ec2c6c2d122701cf099ea85615d6c9ce2db9e88e2"), looks := false }, kinds := [], alts := [], laidByText := true, laidKinds := [.data, .data, .data, .data, .pinned], laidTests := true, laidLooks := .later }
def SeqShortCardSaid : Prop := Claim7.holds Tryz.pinned (.plain (OpenSpec.ofChange seqShortSpec)) seqShortCard

/-- THE TIED CARD OF 'muleteerlaw1.FixEdges'. -/
def fixEdgesCard : Claim7 := { stood := { row := fixEdgesRow, standIns := [], harness := (true, "f1a82a4da44c2ba3121d129ec2c6c2d122701cf099ea85615d6c9ce2db9e88e2"), looks := false }, kinds := [], alts := [], laidByText := true, laidKinds := [.data, .data, .data, .data, .pinned], laidTests := true, laidLooks := .later }
def FixEdgesCardSaid : Prop := Claim7.holds Tryz.pinned (.plain (OpenSpec.ofChange fixEdgesSpec)) fixEdgesCard

/-- THE TIED CARD OF 'muleteerlaw1.SeqRound'. -/
def seqRoundCard : Claim7 := { stood := { row := seqRoundRow, standIns := [], harness := (true, "f1a82a4da44c2ba3121d129ec2c6c2d122701cf099ea85615d6c9ce2db9e88e2"), looks := false }, kinds := [], alts := [], laidByText := true, laidKinds := [.data, .data, .data, .data, .pinned], laidTests := true, laidLooks := .later }
def SeqRoundCardSaid : Prop := Claim7.holds Tryz.pinned (.plain (OpenSpec.ofChange seqRoundSpec)) seqRoundCard

/-- THE TIED CARD OF 'muleteerlaw1.SeqOrder'. -/
def seqOrderCard : Claim7 := { stood := { row := seqOrderRow, standIns := [], harness := (true, "f1a82a4da44c2ba3121d129ec2c6c2d122701cf099ea85615d6c9ce2db9e88e2"), looks := false }, kinds := [], alts := [], laidByText := true, laidKinds := [.data, .data, .data, .data, .pinned], laidTests := true, laidLooks := .later }
def SeqOrderCardSaid : Prop := Claim7.holds Tryz.pinned (.plain (OpenSpec.ofChange seqOrderSpec)) seqOrderCard

/-- THE TIED CARD OF 'muleteerlaw1.FixOrder'. -/
def fixOrderCard : Claim7 := { stood := { row := fixOrderRow, standIns := [], harness := (true, "f1a82a4da44c2ba3121d129ec2c6c2d122701cf099ea85615d6c9ce2db9e88e2"), looks := false }, kinds := [], alts := [], laidByText := true, laidKinds := [.data, .data, .data, .data, .pinned], laidTests := true, laidLooks := .later }
def FixOrderCardSaid : Prop := Claim7.holds Tryz.pinned (.plain (OpenSpec.ofChange fixOrderSpec)) fixOrderCard

/-- THE TIED CARD OF 'muleteerlaw1.FixHalves'. -/
def fixHalvesCard : Claim7 := { stood := { row := fixHalvesRow, standIns := [], harness := (true, "f1a82a4da44c2ba3121d129ec2c6c2d122701cf099ea85615d6c9ce2db9e88e2"), looks := false }, kinds := [], alts := [], laidByText := true, laidKinds := [.data, .data, .data, .data, .pinned], laidTests := true, laidLooks := .later }
def FixHalvesCardSaid : Prop := Claim7.holds Tryz.pinned (.plain (OpenSpec.ofChange fixHalvesSpec)) fixHalvesCard

/-- THE TIED CARD OF 'muleteerlaw1.SeqWindow'. -/
def seqWindowCard : Claim7 := { stood := { row := seqWindowRow, standIns := [], harness := (true, "f1a82a4da44c2ba3121d129ec2c6c2d122701cf099ea85615d6c9ce2db9e88e2"), looks := false }, kinds := [], alts := [], laidByText := true, laidKinds := [.data, .data, .data, .data, .pinned], laidTests := true, laidLooks := .later }
def SeqWindowCardSaid : Prop := Claim7.holds Tryz.pinned (.plain (OpenSpec.ofChange seqWindowSpec)) seqWindowCard

/-- THE SECOND FORM's CARD OF 'muleteerlaw1.FixAll'. -/
def fixAllUptoCard : Claim7 := { stood := { row := fixAllUptoRow, standIns := [], harness := (true, "f1a82a4da44c2ba3121d129ec2c6c2d122701cf099ea85615d6c9ce2db9e88e2"), looks := false }, kinds := [], alts := [], laidByText := true, laidKinds := [.data, .data, .data, .data, .pinned], laidTests := true, laidLooks := .later }
def FixAllUptoCardSaid : Prop := Claim7.holds Tryz.pinned (.plain (OpenSpec.upto fixAllSpec)) fixAllUptoCard

/-- THE SECOND FORM's CARD OF 'muleteerlaw1.FixRoot'. -/
def fixRootUptoCard : Claim7 := { stood := { row := fixRootUptoRow, standIns := [], harness := (true, "f1a82a4da44c2ba3121d129ec2c6c2d122701cf099ea85615d6c9ce2db9e88e2"), looks := false }, kinds := [], alts := [], laidByText := true, laidKinds := [.data, .data, .data, .data, .pinned], laidTests := true, laidLooks := .later }
def FixRootUptoCardSaid : Prop := Claim7.holds Tryz.pinned (.plain (OpenSpec.upto fixRootSpec)) fixRootUptoCard

/-- THE SECOND FORM's CARD OF 'muleteerlaw1.FixQuot'. -/
def fixQuotUptoCard : Claim7 := { stood := { row := fixQuotUptoRow, standIns := [], harness := (true, "f1a82a4da44c2ba3121d129ec2c6c2d122701cf099ea85615d6c9ce2db9e88e2"), looks := false }, kinds := [], alts := [], laidByText := true, laidKinds := [.data, .data, .data, .data, .pinned], laidTests := true, laidLooks := .later }
def FixQuotUptoCardSaid : Prop := Claim7.holds Tryz.pinned (.plain (OpenSpec.upto fixQuotSpec)) fixQuotUptoCard

/-- THE SECOND FORM's CARD OF 'muleteerlaw1.SeqAll'. -/
def seqAllUptoCard : Claim7 := { stood := { row := seqAllUptoRow, standIns := [], harness := (true, "f1a82a4da44c2ba3121d129ec2c6c2d122701cf099ea85615d6c9ce2db9e88e2"), looks := false }, kinds := [], alts := [], laidByText := true, laidKinds := [.data, .data, .data, .data, .pinned], laidTests := true, laidLooks := .later }
def SeqAllUptoCardSaid : Prop := Claim7.holds Tryz.pinned (.plain (OpenSpec.upto seqAllSpec)) seqAllUptoCard

/-- THE SECOND FORM's CARD OF 'muleteerlaw1.SeqMax'. -/
def seqMaxUptoCard : Claim7 := { stood := { row := seqMaxUptoRow, standIns := [], harness := (true, "f1a82a4da44c2ba3121d129ec2c6c2d122701cf099ea85615d6c9ce2db9e88e2"), looks := false }, kinds := [], alts := [], laidByText := true, laidKinds := [.data, .data, .data, .data, .pinned], laidTests := true, laidLooks := .later }
def SeqMaxUptoCardSaid : Prop := Claim7.holds Tryz.pinned (.plain (OpenSpec.upto seqMaxSpec)) seqMaxUptoCard

/-- THE SECOND FORM's CARD OF 'muleteerlaw1.SeqShort'. -/
def seqShortUptoCard : Claim7 := { stood := { row := seqShortUptoRow, standIns := [], harness := (true, "f1a82a4da44c2ba3121d129ec2c6c2d122701cf099ea85615d6c9ce2db9e88e2"), looks := false }, kinds := [], alts := [], laidByText := true, laidKinds := [.data, .data, .data, .data, .pinned], laidTests := true, laidLooks := .later }
def SeqShortUptoCardSaid : Prop := Claim7.holds Tryz.pinned (.plain (OpenSpec.upto seqShortSpec)) seqShortUptoCard

/-- THE SECOND FORM's CARD OF 'muleteerlaw1.FixEdges'. -/
def fixEdgesUptoCard : Claim7 := { stood := { row := fixEdgesUptoRow, standIns := [], harness := (true, "f1a82a4da44c2ba3121d129ec2c6c2d122701cf099ea85615d6c9ce2db9e88e2"), looks := false }, kinds := [], alts := [], laidByText := true, laidKinds := [.data, .data, .data, .data, .pinned], laidTests := true, laidLooks := .later }
def FixEdgesUptoCardSaid : Prop := Claim7.holds Tryz.pinned (.plain (OpenSpec.upto fixEdgesSpec)) fixEdgesUptoCard

/-- THE SECOND FORM's CARD OF 'muleteerlaw1.SeqRound'. -/
def seqRoundUptoCard : Claim7 := { stood := { row := seqRoundUptoRow, standIns := [], harness := (true, "f1a82a4da44c2ba3121d129ec2c6c2d122701cf099ea85615d6c9ce2db9e88e2"), looks := false }, kinds := [], alts := [], laidByText := true, laidKinds := [.data, .data, .data, .data, .pinned], laidTests := true, laidLooks := .later }
def SeqRoundUptoCardSaid : Prop := Claim7.holds Tryz.pinned (.plain (OpenSpec.upto seqRoundSpec)) seqRoundUptoCard

/-- THE SECOND FORM's CARD OF 'muleteerlaw1.SeqOrder'. -/
def seqOrderUptoCard : Claim7 := { stood := { row := seqOrderUptoRow, standIns := [], harness := (true, "f1a82a4da44c2ba3121d129ec2c6c2d122701cf099ea85615d6c9ce2db9e88e2"), looks := false }, kinds := [], alts := [], laidByText := true, laidKinds := [.data, .data, .data, .data, .pinned], laidTests := true, laidLooks := .later }
def SeqOrderUptoCardSaid : Prop := Claim7.holds Tryz.pinned (.plain (OpenSpec.upto seqOrderSpec)) seqOrderUptoCard

/-- THE SECOND FORM's CARD OF 'muleteerlaw1.FixOrder'. -/
def fixOrderUptoCard : Claim7 := { stood := { row := fixOrderUptoRow, standIns := [], harness := (true, "f1a82a4da44c2ba3121d129ec2c6c2d122701cf099ea85615d6c9ce2db9e88e2"), looks := false }, kinds := [], alts := [], laidByText := true, laidKinds := [.data, .data, .data, .data, .pinned], laidTests := true, laidLooks := .later }
def FixOrderUptoCardSaid : Prop := Claim7.holds Tryz.pinned (.plain (OpenSpec.upto fixOrderSpec)) fixOrderUptoCard

/-- THE SECOND FORM's CARD OF 'muleteerlaw1.FixHalves'. -/
def fixHalvesUptoCard : Claim7 := { stood := { row := fixHalvesUptoRow, standIns := [], harness := (true, "f1a82a4da44c2ba3121d129ec2c6c2d122701cf099ea85615d6c9ce2db9e88e2"), looks := false }, kinds := [], alts := [], laidByText := true, laidKinds := [.data, .data, .data, .data, .pinned], laidTests := true, laidLooks := .later }
def FixHalvesUptoCardSaid : Prop := Claim7.holds Tryz.pinned (.plain (OpenSpec.upto fixHalvesSpec)) fixHalvesUptoCard

/-- THE SECOND FORM's CARD OF 'muleteerlaw1.SeqWindow'. -/
def seqWindowUptoCard : Claim7 := { stood := { row := seqWindowUptoRow, standIns := [], harness := (true, "f1a82a4da44c2ba3121d129ec2c6c2d122701cf099ea85615d6c9ce2db9e88e2"), looks := false }, kinds := [], alts := [], laidByText := true, laidKinds := [.data, .data, .data, .data, .pinned], laidTests := true, laidLooks := .later }
def SeqWindowUptoCardSaid : Prop := Claim7.holds Tryz.pinned (.plain (OpenSpec.upto seqWindowSpec)) seqWindowUptoCard
end Rows
end Go.Proofs.YtagnbggldpjncaaGreatDoor
