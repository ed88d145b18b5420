/-
  DERIVED. GIVEN WITH THE SEED: THE CARDS: each row of YtdlpapchjjbplaaGreatDoorRows.lean that lists a variable, with what it lists TIED to the program's text (the seventh form; the later family's looks); each row that meets fmt, with fmt's text TOLD by the authors' own Lean function (tested against real Go, not proved from fmt's source: count such statements apart). THE CARD IS WHAT COUNTS. Prove the row's statement (the work); the ties are given (YtdlpapchjjbplaaGreatDoorTie.lean); close each card by the builder's one call (the guide's Derived/Test/ToyasCard.lean, 'card_holds'). Laid BY PROGRAM, IN A SANDBOX (cutbox-door.mjs). By AI agents, Wed Nov 11 2026. No macro, syntax, notation, axiom, sorry.
-/
import Derived.Test.YtdlpapchjjbplaaGreatDoorRows
import GoSem.ClaimSeven
namespace Go.Proofs.YtdlpapchjjbplaaGreatDoor
namespace Rows

/-- THE TIED CARD OF 'muleteerlaw1.SumAll'. -/
def sumAllCard : Claim7 := { stood := { row := sumAllRow, standIns := [], harness := (true, "0ae862e542d1040dab15854e3f9ecf529cb6f79b6786be909cec6e47028c6317"), looks := false }, kinds := [], alts := [], laidByText := true, laidKinds := [.data, .data, .data, .data, .pinned], laidTests := true, laidLooks := .later }
def SumAllCardSaid : Prop := Claim7.holds Tryz.pinned (.plain (OpenSpec.ofChange sumAllSpec)) sumAllCard

/-- THE TIED CARD OF 'muleteerlaw1.SumBit'. -/
def sumBitCard : Claim7 := { stood := { row := sumBitRow, standIns := [], harness := (true, "0ae862e542d1040dab15854e3f9ecf529cb6f79b6786be909cec6e47028c6317"), looks := false }, kinds := [], alts := [], laidByText := true, laidKinds := [.data, .data, .data, .data, .pinned], laidTests := true, laidLooks := .later }
def SumBitCardSaid : Prop := Claim7.holds Tryz.pinned (.plain (OpenSpec.ofChange sumBitSpec)) sumBitCard

/-- THE TIED CARD OF 'muleteerlaw1.HeadAll'. -/
def headAllCard : Claim7 := { stood := { row := headAllRow, standIns := [], harness := (true, "0ae862e542d1040dab15854e3f9ecf529cb6f79b6786be909cec6e47028c6317"), looks := false }, kinds := [], alts := [], laidByText := true, laidKinds := [.data, .data, .data, .data, .pinned], laidTests := true, laidLooks := .later }
def HeadAllCardSaid : Prop := Claim7.holds Tryz.pinned (.plain (OpenSpec.ofChange headAllSpec)) headAllCard

/-- THE TIED CARD OF 'muleteerlaw1.OptAll'. -/
def optAllCard : Claim7 := { stood := { row := optAllRow, standIns := [], harness := (true, "0ae862e542d1040dab15854e3f9ecf529cb6f79b6786be909cec6e47028c6317"), looks := false }, kinds := [], alts := [], laidByText := true, laidKinds := [.data, .data, .data, .data, .pinned], laidTests := true, laidLooks := .later }
def OptAllCardSaid : Prop := Claim7.holds Tryz.pinned (.plain (OpenSpec.ofChange optAllSpec)) optAllCard

/-- THE TIED CARD OF 'muleteerlaw1.OptNumber'. -/
def optNumberCard : Claim7 := { stood := { row := optNumberRow, standIns := [], harness := (true, "0ae862e542d1040dab15854e3f9ecf529cb6f79b6786be909cec6e47028c6317"), looks := false }, kinds := [], alts := [], laidByText := true, laidKinds := [.data, .data, .data, .data, .pinned], laidTests := true, laidLooks := .later }
def OptNumberCardSaid : Prop := Claim7.holds Tryz.pinned (.plain (OpenSpec.ofChange optNumberSpec)) optNumberCard

/-- THE TIED CARD OF 'muleteerlaw1.SumTwo'. -/
def sumTwoCard : Claim7 := { stood := { row := sumTwoRow, standIns := [], harness := (true, "0ae862e542d1040dab15854e3f9ecf529cb6f79b6786be909cec6e47028c6317"), looks := false }, kinds := [], alts := [], laidByText := true, laidKinds := [.data, .data, .data, .data, .pinned], laidTests := true, laidLooks := .later }
def SumTwoCardSaid : Prop := Claim7.holds Tryz.pinned (.plain (OpenSpec.ofChange sumTwoSpec)) sumTwoCard

/-- THE TIED CARD OF 'muleteerlaw1.HeadSizes'. -/
def headSizesCard : Claim7 := { stood := { row := headSizesRow, standIns := [], harness := (true, "0ae862e542d1040dab15854e3f9ecf529cb6f79b6786be909cec6e47028c6317"), looks := false }, kinds := [], alts := [], laidByText := true, laidKinds := [.data, .data, .data, .data, .pinned], laidTests := true, laidLooks := .later }
def HeadSizesCardSaid : Prop := Claim7.holds Tryz.pinned (.plain (OpenSpec.ofChange headSizesSpec)) headSizesCard

/-- THE TIED CARD OF 'muleteerlaw1.HeadLoose'. -/
def headLooseCard : Claim7 := { stood := { row := headLooseRow, standIns := [], harness := (true, "0ae862e542d1040dab15854e3f9ecf529cb6f79b6786be909cec6e47028c6317"), looks := false }, kinds := [], alts := [], laidByText := true, laidKinds := [.data, .data, .data, .data, .pinned], laidTests := true, laidLooks := .later }
def HeadLooseCardSaid : Prop := Claim7.holds Tryz.pinned (.plain (OpenSpec.ofChange headLooseSpec)) headLooseCard

/-- THE TIED CARD OF 'muleteerlaw1.OptTorn'. -/
def optTornCard : Claim7 := { stood := { row := optTornRow, standIns := [], harness := (true, "0ae862e542d1040dab15854e3f9ecf529cb6f79b6786be909cec6e47028c6317"), looks := false }, kinds := [], alts := [], laidByText := true, laidKinds := [.data, .data, .data, .data, .pinned], laidTests := true, laidLooks := .later }
def OptTornCardSaid : Prop := Claim7.holds Tryz.pinned (.plain (OpenSpec.ofChange optTornSpec)) optTornCard

/-- THE TIED CARD OF 'muleteerlaw1.SumZeros'. -/
def sumZerosCard : Claim7 := { stood := { row := sumZerosRow, standIns := [], harness := (true, "0ae862e542d1040dab15854e3f9ecf529cb6f79b6786be909cec6e47028c6317"), looks := false }, kinds := [], alts := [], laidByText := true, laidKinds := [.data, .data, .data, .data, .pinned], laidTests := true, laidLooks := .later }
def SumZerosCardSaid : Prop := Claim7.holds Tryz.pinned (.plain (OpenSpec.ofChange sumZerosSpec)) sumZerosCard

/-- THE TIED CARD OF 'muleteerlaw1.HeadPrefix'. -/
def headPrefixCard : Claim7 := { stood := { row := headPrefixRow, standIns := [], harness := (true, "0ae862e542d1040dab15854e3f9ecf529cb6f79b6786be909cec6e47028c6317"), looks := false }, kinds := [], alts := [], laidByText := true, laidKinds := [.data, .data, .data, .data, .pinned], laidTests := true, laidLooks := .later }
def HeadPrefixCardSaid : Prop := Claim7.holds Tryz.pinned (.plain (OpenSpec.ofChange headPrefixSpec)) headPrefixCard

/-- THE TIED CARD OF 'muleteerlaw1.OptMany'. -/
def optManyCard : Claim7 := { stood := { row := optManyRow, standIns := [], harness := (true, "0ae862e542d1040dab15854e3f9ecf529cb6f79b6786be909cec6e47028c6317"), looks := false }, kinds := [], alts := [], laidByText := true, laidKinds := [.data, .data, .data, .data, .pinned], laidTests := true, laidLooks := .later }
def OptManyCardSaid : Prop := Claim7.holds Tryz.pinned (.plain (OpenSpec.ofChange optManySpec)) optManyCard

/-- THE SECOND FORM's CARD OF 'muleteerlaw1.SumAll'. -/
def sumAllUptoCard : Claim7 := { stood := { row := sumAllUptoRow, standIns := [], harness := (true, "0ae862e542d1040dab15854e3f9ecf529cb6f79b6786be909cec6e47028c6317"), looks := false }, kinds := [], alts := [], laidByText := true, laidKinds := [.data, .data, .data, .data, .pinned], laidTests := true, laidLooks := .later }
def SumAllUptoCardSaid : Prop := Claim7.holds Tryz.pinned (.plain (OpenSpec.upto sumAllSpec)) sumAllUptoCard

/-- THE SECOND FORM's CARD OF 'muleteerlaw1.SumBit'. -/
def sumBitUptoCard : Claim7 := { stood := { row := sumBitUptoRow, standIns := [], harness := (true, "0ae862e542d1040dab15854e3f9ecf529cb6f79b6786be909cec6e47028c6317"), looks := false }, kinds := [], alts := [], laidByText := true, laidKinds := [.data, .data, .data, .data, .pinned], laidTests := true, laidLooks := .later }
def SumBitUptoCardSaid : Prop := Claim7.holds Tryz.pinned (.plain (OpenSpec.upto sumBitSpec)) sumBitUptoCard

/-- THE SECOND FORM's CARD OF 'muleteerlaw1.HeadAll'. -/
def headAllUptoCard : Claim7 := { stood := { row := headAllUptoRow, standIns := [], harness := (true, "0ae862e542d1040dab15854e3f9ecf529cb6f79b6786be909cec6e47028c6317"), looks := false }, kinds := [], alts := [], laidByText := true, laidKinds := [.data, .data, .data, .data, .pinned], laidTests := true, laidLooks := .later }
def HeadAllUptoCardSaid : Prop := Claim7.holds Tryz.pinned (.plain (OpenSpec.upto headAllSpec)) headAllUptoCard

/-- THE SECOND FORM's CARD OF 'muleteerlaw1.OptAll'. -/
def optAllUptoCard : Claim7 := { stood := { row := optAllUptoRow, standIns := [], harness := (true, "0ae862e542d1040dab15854e3f9ecf529cb6f79b6786be909cec6e47028c6317"), looks := false }, kinds := [], alts := [], laidByText := true, laidKinds := [.data, .data, .data, .data, .pinned], laidTests := true, laidLooks := .later }
def OptAllUptoCardSaid : Prop := Claim7.holds Tryz.pinned (.plain (OpenSpec.upto optAllSpec)) optAllUptoCard

/-- THE SECOND FORM's CARD OF 'muleteerlaw1.OptNumber'. -/
def optNumberUptoCard : Claim7 := { stood := { row := optNumberUptoRow, standIns := [], harness := (true, "0ae862e542d1040dab15854e3f9ecf529cb6f79b6786be909cec6e47028c6317"), looks := false }, kinds := [], alts := [], laidByText := true, laidKinds := [.data, .data, .data, .data, .pinned], laidTests := true, laidLooks := .later }
def OptNumberUptoCardSaid : Prop := Claim7.holds Tryz.pinned (.plain (OpenSpec.upto optNumberSpec)) optNumberUptoCard

/-- THE SECOND FORM's CARD OF 'muleteerlaw1.SumTwo'. -/
def sumTwoUptoCard : Claim7 := { stood := { row := sumTwoUptoRow, standIns := [], harness := (true, "0ae862e542d1040dab15854e3f9ecf529cb6f79b6786be909cec6e47028c6317"), looks := false }, kinds := [], alts := [], laidByText := true, laidKinds := [.data, .data, .data, .data, .pinned], laidTests := true, laidLooks := .later }
def SumTwoUptoCardSaid : Prop := Claim7.holds Tryz.pinned (.plain (OpenSpec.upto sumTwoSpec)) sumTwoUptoCard

/-- THE SECOND FORM's CARD OF 'muleteerlaw1.HeadSizes'. -/
def headSizesUptoCard : Claim7 := { stood := { row := headSizesUptoRow, standIns := [], harness := (true, "0ae862e542d1040dab15854e3f9ecf529cb6f79b6786be909cec6e47028c6317"), looks := false }, kinds := [], alts := [], laidByText := true, laidKinds := [.data, .data, .data, .data, .pinned], laidTests := true, laidLooks := .later }
def HeadSizesUptoCardSaid : Prop := Claim7.holds Tryz.pinned (.plain (OpenSpec.upto headSizesSpec)) headSizesUptoCard

/-- THE SECOND FORM's CARD OF 'muleteerlaw1.HeadLoose'. -/
def headLooseUptoCard : Claim7 := { stood := { row := headLooseUptoRow, standIns := [], harness := (true, "0ae862e542d1040dab15854e3f9ecf529cb6f79b6786be909cec6e47028c6317"), looks := false }, kinds := [], alts := [], laidByText := true, laidKinds := [.data, .data, .data, .data, .pinned], laidTests := true, laidLooks := .later }
def HeadLooseUptoCardSaid : Prop := Claim7.holds Tryz.pinned (.plain (OpenSpec.upto headLooseSpec)) headLooseUptoCard

/-- THE SECOND FORM's CARD OF 'muleteerlaw1.OptTorn'. -/
def optTornUptoCard : Claim7 := { stood := { row := optTornUptoRow, standIns := [], harness := (true, "0ae862e542d1040dab15854e3f9ecf529cb6f79b6786be909cec6e47028c6317"), looks := false }, kinds := [], alts := [], laidByText := true, laidKinds := [.data, .data, .data, .data, .pinned], laidTests := true, laidLooks := .later }
def OptTornUptoCardSaid : Prop := Claim7.holds Tryz.pinned (.plain (OpenSpec.upto optTornSpec)) optTornUptoCard

/-- THE SECOND FORM's CARD OF 'muleteerlaw1.SumZeros'. -/
def sumZerosUptoCard : Claim7 := { stood := { row := sumZerosUptoRow, standIns := [], harness := (true, "0ae862e542d1040dab15854e3f9ecf529cb6f79b6786be909cec6e47028c6317"), looks := false }, kinds := [], alts := [], laidByText := true, laidKinds := [.data, .data, .data, .data, .pinned], laidTests := true, laidLooks := .later }
def SumZerosUptoCardSaid : Prop := Claim7.holds Tryz.pinned (.plain (OpenSpec.upto sumZerosSpec)) sumZerosUptoCard

/-- THE SECOND FORM's CARD OF 'muleteerlaw1.HeadPrefix'. -/
def headPrefixUptoCard : Claim7 := { stood := { row := headPrefixUptoRow, standIns := [], harness := (true, "0ae862e542d1040dab15854e3f9ecf529cb6f79b6786be909cec6e47028c6317"), looks := false }, kinds := [], alts := [], laidByText := true, laidKinds := [.data, .data, .data, .data, .pinned], laidTests := true, laidLooks := .later }
def HeadPrefixUptoCardSaid : Prop := Claim7.holds Tryz.pinned (.plain (OpenSpec.upto headPrefixSpec)) headPrefixUptoCard

/-- THE SECOND FORM's CARD OF 'muleteerlaw1.OptMany'. -/
def optManyUptoCard : Claim7 := { stood := { row := optManyUptoRow, standIns := [], harness := (true, "0ae862e542d1040dab15854e3f9ecf529cb6f79b6786be909cec6e47028c6317"), looks := false }, kinds := [], alts := [], laidByText := true, laidKinds := [.data, .data, .data, .data, .pinned], laidTests := true, laidLooks := .later }
def OptManyUptoCardSaid : Prop := Claim7.holds Tryz.pinned (.plain (OpenSpec.upto optManySpec)) optManyUptoCard
end Rows
end Go.Proofs.YtdlpapchjjbplaaGreatDoor
