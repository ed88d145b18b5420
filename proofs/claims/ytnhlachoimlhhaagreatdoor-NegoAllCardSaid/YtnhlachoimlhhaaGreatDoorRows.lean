/-
  NARROWER THAN 'FOR EVERY INPUT', by the rows' own cells (each row's printed sentence says how): NegoAll: laid · CtrlKinds: laid · ValidNext: laid · CtrlNone: laid · CtrlWait: laid · CtrlHear: laid · ValidStates: laid · ValidWindow: laid · CtrlFire: laid · CtrlNoLoss: laid · ValidShort: laid.
  DERIVED. THE GIVEN ROWS OF THIS SEAT. 11 by the template 'for every input the law returns true; each argument reads behind the call as it read before'; 0 by the template 'total and deterministic' (their statements: YtnhlachoimlhhaaGreatDoorTotals.lean).
  GIVEN WITH THE SEED: the statements are not yours to turn. If you find one false, say at which input.
  Laid BY PROGRAM, IN A SANDBOX (cutbox-rows.mjs): the forced cells as the released guide's own fill.sh prints them over the translation 6e2ba44c99444734… (all of the seat's roots in one cut). By AI agents, Wed Nov 11 2026. No macro, syntax, notation, axiom, sorry.
-/
import Derived.Test.YtnhlachoimlhhaaGreatDoorChecked
import GoSem.PinnedTables
import GoSem.Claim
import GoSem.ClaimJoined
import GoSem.ClaimMapViews
import Derived.JoinedTies
import Derived.KernelRfl
namespace Go.Proofs.YtnhlachoimlhhaaGreatDoor
/- THE CELL 'sum', in the pinned program and in every row, IS THE sha256 OF THE DUMP (.gsa) THAT YtnhlachoimlhhaaGreatDoorProg.lean LOADS. Nothing in Lean hashes anything: it is a label: what it is worth is what the hold of that sum in a sandbox is worth. -/
noncomputable def Tryz.pinned : Pinned := { name := "ytnhlachoimlhhaagreatdoor", sum := "6e2ba44c99444734abfa811bad26f82ede0087e5d6f05b7e2088514865c20f33", checked := Tryz.checked }
namespace Rows
def none {H : Type} : Left H := { results := [], args := [] }

/- WHAT THE LISTED PACKAGE-LEVEL VARIABLES READ AS WHEN THE CALL BEGINS. Each datum BY PROGRAM (the guide's laid-datum.mjs) off the statement by which the dump's own 'gosem.cut.vars' lays the variable. In a bare row this is a premise. The card (YtnhlachoimlhhaaGreatDoorCards.lean) ties it to the program's text. -/
def laid_math_bits_deBruijn32tab {H : Type} : DataW H := .agg [.lit (.int .u8 0), .lit (.int .u8 1), .lit (.int .u8 28), .lit (.int .u8 2), .lit (.int .u8 29), .lit (.int .u8 14), .lit (.int .u8 24), .lit (.int .u8 3), .lit (.int .u8 30), .lit (.int .u8 22), .lit (.int .u8 20), .lit (.int .u8 15), .lit (.int .u8 25), .lit (.int .u8 17), .lit (.int .u8 4), .lit (.int .u8 8), .lit (.int .u8 31), .lit (.int .u8 27), .lit (.int .u8 13), .lit (.int .u8 23), .lit (.int .u8 21), .lit (.int .u8 19), .lit (.int .u8 16), .lit (.int .u8 7), .lit (.int .u8 26), .lit (.int .u8 12), .lit (.int .u8 18), .lit (.int .u8 6), .lit (.int .u8 11), .lit (.int .u8 5), .lit (.int .u8 10), .lit (.int .u8 9)]
def laid_math_bits_deBruijn64tab {H : Type} : DataW H := .agg [.lit (.int .u8 0), .lit (.int .u8 1), .lit (.int .u8 56), .lit (.int .u8 2), .lit (.int .u8 57), .lit (.int .u8 49), .lit (.int .u8 28), .lit (.int .u8 3), .lit (.int .u8 61), .lit (.int .u8 58), .lit (.int .u8 42), .lit (.int .u8 50), .lit (.int .u8 38), .lit (.int .u8 29), .lit (.int .u8 17), .lit (.int .u8 4), .lit (.int .u8 62), .lit (.int .u8 47), .lit (.int .u8 59), .lit (.int .u8 36), .lit (.int .u8 45), .lit (.int .u8 43), .lit (.int .u8 51), .lit (.int .u8 22), .lit (.int .u8 53), .lit (.int .u8 39), .lit (.int .u8 33), .lit (.int .u8 30), .lit (.int .u8 24), .lit (.int .u8 18), .lit (.int .u8 12), .lit (.int .u8 5), .lit (.int .u8 63), .lit (.int .u8 55), .lit (.int .u8 48), .lit (.int .u8 27), .lit (.int .u8 60), .lit (.int .u8 41), .lit (.int .u8 37), .lit (.int .u8 16), .lit (.int .u8 46), .lit (.int .u8 35), .lit (.int .u8 44), .lit (.int .u8 21), .lit (.int .u8 52), .lit (.int .u8 32), .lit (.int .u8 23), .lit (.int .u8 11), .lit (.int .u8 54), .lit (.int .u8 26), .lit (.int .u8 40), .lit (.int .u8 15), .lit (.int .u8 34), .lit (.int .u8 20), .lit (.int .u8 31), .lit (.int .u8 10), .lit (.int .u8 25), .lit (.int .u8 14), .lit (.int .u8 19), .lit (.int .u8 9), .lit (.int .u8 13), .lit (.int .u8 8), .lit (.int .u8 7), .lit (.int .u8 6)]
def laid_internal_strconv_uint64pow10 {H : Type} : DataW H := .agg [.lit (.int .u64 1), .lit (.int .u64 10), .lit (.int .u64 100), .lit (.int .u64 1000), .lit (.int .u64 10000), .lit (.int .u64 100000), .lit (.int .u64 1000000), .lit (.int .u64 10000000), .lit (.int .u64 100000000), .lit (.int .u64 1000000000), .lit (.int .u64 10000000000), .lit (.int .u64 100000000000), .lit (.int .u64 1000000000000), .lit (.int .u64 10000000000000), .lit (.int .u64 100000000000000), .lit (.int .u64 1000000000000000), .lit (.int .u64 10000000000000000), .lit (.int .u64 100000000000000000), .lit (.int .u64 1000000000000000000), .lit (.int .u64 10000000000000000000)]
def laid_muleteer_ival_weights {H : Type} : DataW H := .agg [.lit (.int .u64 5), .lit (.int .u64 5), .lit (.int .u64 5), .lit (.int .u64 5), .lit (.int .u64 4), .lit (.int .u64 3), .lit (.int .u64 2), .lit (.int .u64 1)]
def laid_unicode_utf8_acceptRanges {H : Type} : DataW H := .agg [.agg [.lit (.int .u8 128), .lit (.int .u8 191)], .agg [.lit (.int .u8 160), .lit (.int .u8 191)], .agg [.lit (.int .u8 128), .lit (.int .u8 159)], .agg [.lit (.int .u8 144), .lit (.int .u8 191)], .agg [.lit (.int .u8 128), .lit (.int .u8 143)], .agg [.lit (.int .u8 0), .lit (.int .u8 0)], .agg [.lit (.int .u8 0), .lit (.int .u8 0)], .agg [.lit (.int .u8 0), .lit (.int .u8 0)], .agg [.lit (.int .u8 0), .lit (.int .u8 0)], .agg [.lit (.int .u8 0), .lit (.int .u8 0)], .agg [.lit (.int .u8 0), .lit (.int .u8 0)], .agg [.lit (.int .u8 0), .lit (.int .u8 0)], .agg [.lit (.int .u8 0), .lit (.int .u8 0)], .agg [.lit (.int .u8 0), .lit (.int .u8 0)], .agg [.lit (.int .u8 0), .lit (.int .u8 0)], .agg [.lit (.int .u8 0), .lit (.int .u8 0)]]
/-- One of Go's own tables, pinned by name: the form's constant. -/
def laid_unicode_utf8_first : DataW Unit := Go.Pinned.utf8First

/-- 'muleteerlaw18.NegoAll': WHATEVER THE INPUT: true; the input reads as it did. -/
def negoAllSpec : ChangeSpec := { name := "negoAll", fn := fun _ => fun
  | [d1, d2] => { results := [.lit (.bool true)], args := [d1, d2] }
  | _ => none }
def negoAllRow : OpenClaim := { program := "ytnhlachoimlhhaagreatdoor", sum := "6e2ba44c99444734abfa811bad26f82ede0087e5d6f05b7e2088514865c20f33", func := "muleteer/muleteerlaw18.NegoAll", spec := "negoAll", inPlace := ["internal/bytealg.IndexByteString", "math/bits.Add64", "slices.overlaps[int]", "slices.overlaps[muleteer/rset.pair]", "slices.overlaps[uint64]", "internal/bytealg.IndexString"], unfollowed := true, recurses := true, named := ["math/bits.divideError", "math/bits.overflowError", "muleteer/ival.weights", "unicode/utf8.first", "unicode/utf8.acceptRanges", "internal/strconv.uint64pow10", "math/bits.deBruijn32tab", "math/bits.deBruijn64tab", "internal/bytealg.MaxLen"], apart := false, laid := [("math/bits.deBruijn32tab", laid_math_bits_deBruijn32tab), ("math/bits.deBruijn64tab", laid_math_bits_deBruijn64tab), ("internal/strconv.uint64pow10", laid_internal_strconv_uint64pow10), ("muleteer/ival.weights", laid_muleteer_ival_weights), ("unicode/utf8.acceptRanges", laid_unicode_utf8_acceptRanges), ("unicode/utf8.first", laid_unicode_utf8_first)] }
def NegoAllSaid : Prop := negoAllRow.holds Tryz.pinned (OpenSpec.ofChange negoAllSpec)

/-- ITS FALSE NEIGHBOUR: 'it returns false'. Refute it at one input. -/
def negoAllWrong : ChangeSpec := { name := "negoAll", fn := fun _ => fun
  | [d1, d2] => { results := [.lit (.bool false)], args := [d1, d2] }
  | _ => none }
def NegoAllWrongFalsely : Prop := negoAllRow.holds Tryz.pinned (OpenSpec.ofChange negoAllWrong)

/-- 'muleteerlaw18.CtrlKinds': WHATEVER THE INPUT: true; the input reads as it did. -/
def ctrlKindsSpec : ChangeSpec := { name := "ctrlKinds", fn := fun _ => fun
  | [d1, d2] => { results := [.lit (.bool true)], args := [d1, d2] }
  | _ => none }
def ctrlKindsRow : OpenClaim := { program := "ytnhlachoimlhhaagreatdoor", sum := "6e2ba44c99444734abfa811bad26f82ede0087e5d6f05b7e2088514865c20f33", func := "muleteer/muleteerlaw18.CtrlKinds", spec := "ctrlKinds", inPlace := ["internal/bytealg.IndexByteString", "math/bits.Add64", "slices.overlaps[int]", "slices.overlaps[muleteer/rset.pair]", "slices.overlaps[uint64]", "internal/bytealg.IndexString"], unfollowed := true, recurses := true, named := ["math/bits.divideError", "math/bits.overflowError", "muleteer/ival.weights", "unicode/utf8.first", "unicode/utf8.acceptRanges", "internal/strconv.uint64pow10", "math/bits.deBruijn32tab", "math/bits.deBruijn64tab", "internal/bytealg.MaxLen"], apart := false, laid := [("math/bits.deBruijn32tab", laid_math_bits_deBruijn32tab), ("math/bits.deBruijn64tab", laid_math_bits_deBruijn64tab), ("internal/strconv.uint64pow10", laid_internal_strconv_uint64pow10), ("muleteer/ival.weights", laid_muleteer_ival_weights), ("unicode/utf8.acceptRanges", laid_unicode_utf8_acceptRanges), ("unicode/utf8.first", laid_unicode_utf8_first)] }
def CtrlKindsSaid : Prop := ctrlKindsRow.holds Tryz.pinned (OpenSpec.ofChange ctrlKindsSpec)

/-- ITS FALSE NEIGHBOUR: 'it returns false'. Refute it at one input. -/
def ctrlKindsWrong : ChangeSpec := { name := "ctrlKinds", fn := fun _ => fun
  | [d1, d2] => { results := [.lit (.bool false)], args := [d1, d2] }
  | _ => none }
def CtrlKindsWrongFalsely : Prop := ctrlKindsRow.holds Tryz.pinned (OpenSpec.ofChange ctrlKindsWrong)

/-- 'muleteerlaw18.ValidNext': WHATEVER THE INPUT: true; the input reads as it did. -/
def validNextSpec : ChangeSpec := { name := "validNext", fn := fun _ => fun
  | [d1, d2, d3] => { results := [.lit (.bool true)], args := [d1, d2, d3] }
  | _ => none }
def validNextRow : OpenClaim := { program := "ytnhlachoimlhhaagreatdoor", sum := "6e2ba44c99444734abfa811bad26f82ede0087e5d6f05b7e2088514865c20f33", func := "muleteer/muleteerlaw18.ValidNext", spec := "validNext", inPlace := ["internal/bytealg.IndexByteString", "math/bits.Add64", "slices.overlaps[int]", "slices.overlaps[muleteer/rset.pair]", "slices.overlaps[uint64]", "internal/bytealg.IndexString"], unfollowed := true, recurses := true, named := ["math/bits.divideError", "math/bits.overflowError", "muleteer/ival.weights", "unicode/utf8.first", "unicode/utf8.acceptRanges", "internal/strconv.uint64pow10", "math/bits.deBruijn32tab", "math/bits.deBruijn64tab", "internal/bytealg.MaxLen"], apart := false, laid := [("math/bits.deBruijn32tab", laid_math_bits_deBruijn32tab), ("math/bits.deBruijn64tab", laid_math_bits_deBruijn64tab), ("internal/strconv.uint64pow10", laid_internal_strconv_uint64pow10), ("muleteer/ival.weights", laid_muleteer_ival_weights), ("unicode/utf8.acceptRanges", laid_unicode_utf8_acceptRanges), ("unicode/utf8.first", laid_unicode_utf8_first)] }
def ValidNextSaid : Prop := validNextRow.holds Tryz.pinned (OpenSpec.ofChange validNextSpec)

/-- ITS FALSE NEIGHBOUR: 'it returns false'. Refute it at one input. -/
def validNextWrong : ChangeSpec := { name := "validNext", fn := fun _ => fun
  | [d1, d2, d3] => { results := [.lit (.bool false)], args := [d1, d2, d3] }
  | _ => none }
def ValidNextWrongFalsely : Prop := validNextRow.holds Tryz.pinned (OpenSpec.ofChange validNextWrong)

/-- 'muleteerlaw18.CtrlNone': WHATEVER THE INPUT: true; the input reads as it did. -/
def ctrlNoneSpec : ChangeSpec := { name := "ctrlNone", fn := fun _ => fun
  | [] => { results := [.lit (.bool true)], args := [] }
  | _ => none }
def ctrlNoneRow : OpenClaim := { program := "ytnhlachoimlhhaagreatdoor", sum := "6e2ba44c99444734abfa811bad26f82ede0087e5d6f05b7e2088514865c20f33", func := "muleteer/muleteerlaw18.CtrlNone", spec := "ctrlNone", inPlace := ["math/bits.Add64", "internal/bytealg.IndexByteString", "slices.overlaps[int]", "slices.overlaps[muleteer/rset.pair]", "slices.overlaps[uint64]", "internal/bytealg.IndexString"], unfollowed := true, recurses := true, named := ["math/bits.divideError", "math/bits.overflowError", "muleteer/ival.weights", "unicode/utf8.first", "unicode/utf8.acceptRanges", "internal/strconv.uint64pow10", "math/bits.deBruijn32tab", "math/bits.deBruijn64tab", "internal/bytealg.MaxLen"], apart := false, laid := [("math/bits.deBruijn32tab", laid_math_bits_deBruijn32tab), ("math/bits.deBruijn64tab", laid_math_bits_deBruijn64tab), ("internal/strconv.uint64pow10", laid_internal_strconv_uint64pow10), ("muleteer/ival.weights", laid_muleteer_ival_weights), ("unicode/utf8.acceptRanges", laid_unicode_utf8_acceptRanges), ("unicode/utf8.first", laid_unicode_utf8_first)] }
def CtrlNoneSaid : Prop := ctrlNoneRow.holds Tryz.pinned (OpenSpec.ofChange ctrlNoneSpec)

/-- ITS FALSE NEIGHBOUR: 'it returns false'. Refute it at one input. -/
def ctrlNoneWrong : ChangeSpec := { name := "ctrlNone", fn := fun _ => fun
  | [] => { results := [.lit (.bool false)], args := [] }
  | _ => none }
def CtrlNoneWrongFalsely : Prop := ctrlNoneRow.holds Tryz.pinned (OpenSpec.ofChange ctrlNoneWrong)

/-- 'muleteerlaw18.CtrlWait': WHATEVER THE INPUT: true; the input reads as it did. -/
def ctrlWaitSpec : ChangeSpec := { name := "ctrlWait", fn := fun _ => fun
  | [d1, d2] => { results := [.lit (.bool true)], args := [d1, d2] }
  | _ => none }
def ctrlWaitRow : OpenClaim := { program := "ytnhlachoimlhhaagreatdoor", sum := "6e2ba44c99444734abfa811bad26f82ede0087e5d6f05b7e2088514865c20f33", func := "muleteer/muleteerlaw18.CtrlWait", spec := "ctrlWait", inPlace := ["internal/bytealg.IndexByteString", "math/bits.Add64", "slices.overlaps[int]", "slices.overlaps[muleteer/rset.pair]", "slices.overlaps[uint64]", "internal/bytealg.IndexString"], unfollowed := true, recurses := true, named := ["math/bits.divideError", "math/bits.overflowError", "muleteer/ival.weights", "unicode/utf8.first", "unicode/utf8.acceptRanges", "internal/strconv.uint64pow10", "math/bits.deBruijn32tab", "math/bits.deBruijn64tab", "internal/bytealg.MaxLen"], apart := false, laid := [("math/bits.deBruijn32tab", laid_math_bits_deBruijn32tab), ("math/bits.deBruijn64tab", laid_math_bits_deBruijn64tab), ("internal/strconv.uint64pow10", laid_internal_strconv_uint64pow10), ("muleteer/ival.weights", laid_muleteer_ival_weights), ("unicode/utf8.acceptRanges", laid_unicode_utf8_acceptRanges), ("unicode/utf8.first", laid_unicode_utf8_first)] }
def CtrlWaitSaid : Prop := ctrlWaitRow.holds Tryz.pinned (OpenSpec.ofChange ctrlWaitSpec)

/-- ITS FALSE NEIGHBOUR: 'it returns false'. Refute it at one input. -/
def ctrlWaitWrong : ChangeSpec := { name := "ctrlWait", fn := fun _ => fun
  | [d1, d2] => { results := [.lit (.bool false)], args := [d1, d2] }
  | _ => none }
def CtrlWaitWrongFalsely : Prop := ctrlWaitRow.holds Tryz.pinned (OpenSpec.ofChange ctrlWaitWrong)

/-- 'muleteerlaw18.CtrlHear': WHATEVER THE INPUT: true; the input reads as it did. -/
def ctrlHearSpec : ChangeSpec := { name := "ctrlHear", fn := fun _ => fun
  | [d1, d2, d3, d4] => { results := [.lit (.bool true)], args := [d1, d2, d3, d4] }
  | _ => none }
def ctrlHearRow : OpenClaim := { program := "ytnhlachoimlhhaagreatdoor", sum := "6e2ba44c99444734abfa811bad26f82ede0087e5d6f05b7e2088514865c20f33", func := "muleteer/muleteerlaw18.CtrlHear", spec := "ctrlHear", inPlace := ["internal/bytealg.IndexByteString", "math/bits.Add64", "slices.overlaps[int]", "slices.overlaps[muleteer/rset.pair]", "slices.overlaps[uint64]", "internal/bytealg.IndexString"], unfollowed := true, recurses := true, named := ["math/bits.divideError", "math/bits.overflowError", "muleteer/ival.weights", "unicode/utf8.first", "unicode/utf8.acceptRanges", "internal/strconv.uint64pow10", "math/bits.deBruijn32tab", "math/bits.deBruijn64tab", "internal/bytealg.MaxLen"], apart := false, laid := [("math/bits.deBruijn32tab", laid_math_bits_deBruijn32tab), ("math/bits.deBruijn64tab", laid_math_bits_deBruijn64tab), ("internal/strconv.uint64pow10", laid_internal_strconv_uint64pow10), ("muleteer/ival.weights", laid_muleteer_ival_weights), ("unicode/utf8.acceptRanges", laid_unicode_utf8_acceptRanges), ("unicode/utf8.first", laid_unicode_utf8_first)] }
def CtrlHearSaid : Prop := ctrlHearRow.holds Tryz.pinned (OpenSpec.ofChange ctrlHearSpec)

/-- ITS FALSE NEIGHBOUR: 'it returns false'. Refute it at one input. -/
def ctrlHearWrong : ChangeSpec := { name := "ctrlHear", fn := fun _ => fun
  | [d1, d2, d3, d4] => { results := [.lit (.bool false)], args := [d1, d2, d3, d4] }
  | _ => none }
def CtrlHearWrongFalsely : Prop := ctrlHearRow.holds Tryz.pinned (OpenSpec.ofChange ctrlHearWrong)

/-- 'muleteerlaw18.ValidStates': WHATEVER THE INPUT: true; the input reads as it did. -/
def validStatesSpec : ChangeSpec := { name := "validStates", fn := fun _ => fun
  | [d1, d2] => { results := [.lit (.bool true)], args := [d1, d2] }
  | _ => none }
def validStatesRow : OpenClaim := { program := "ytnhlachoimlhhaagreatdoor", sum := "6e2ba44c99444734abfa811bad26f82ede0087e5d6f05b7e2088514865c20f33", func := "muleteer/muleteerlaw18.ValidStates", spec := "validStates", inPlace := ["internal/bytealg.IndexByteString", "math/bits.Add64", "slices.overlaps[int]", "slices.overlaps[muleteer/rset.pair]", "slices.overlaps[uint64]", "internal/bytealg.IndexString"], unfollowed := true, recurses := true, named := ["math/bits.divideError", "math/bits.overflowError", "muleteer/ival.weights", "unicode/utf8.first", "unicode/utf8.acceptRanges", "internal/strconv.uint64pow10", "math/bits.deBruijn32tab", "math/bits.deBruijn64tab", "internal/bytealg.MaxLen"], apart := false, laid := [("math/bits.deBruijn32tab", laid_math_bits_deBruijn32tab), ("math/bits.deBruijn64tab", laid_math_bits_deBruijn64tab), ("internal/strconv.uint64pow10", laid_internal_strconv_uint64pow10), ("muleteer/ival.weights", laid_muleteer_ival_weights), ("unicode/utf8.acceptRanges", laid_unicode_utf8_acceptRanges), ("unicode/utf8.first", laid_unicode_utf8_first)] }
def ValidStatesSaid : Prop := validStatesRow.holds Tryz.pinned (OpenSpec.ofChange validStatesSpec)

/-- ITS FALSE NEIGHBOUR: 'it returns false'. Refute it at one input. -/
def validStatesWrong : ChangeSpec := { name := "validStates", fn := fun _ => fun
  | [d1, d2] => { results := [.lit (.bool false)], args := [d1, d2] }
  | _ => none }
def ValidStatesWrongFalsely : Prop := validStatesRow.holds Tryz.pinned (OpenSpec.ofChange validStatesWrong)

/-- 'muleteerlaw18.ValidWindow': WHATEVER THE INPUT: true; the input reads as it did. -/
def validWindowSpec : ChangeSpec := { name := "validWindow", fn := fun _ => fun
  | [d1, d2] => { results := [.lit (.bool true)], args := [d1, d2] }
  | _ => none }
def validWindowRow : OpenClaim := { program := "ytnhlachoimlhhaagreatdoor", sum := "6e2ba44c99444734abfa811bad26f82ede0087e5d6f05b7e2088514865c20f33", func := "muleteer/muleteerlaw18.ValidWindow", spec := "validWindow", inPlace := ["internal/bytealg.IndexByteString", "math/bits.Add64", "slices.overlaps[int]", "slices.overlaps[muleteer/rset.pair]", "slices.overlaps[uint64]", "internal/bytealg.IndexString"], unfollowed := true, recurses := true, named := ["math/bits.divideError", "math/bits.overflowError", "muleteer/ival.weights", "unicode/utf8.first", "unicode/utf8.acceptRanges", "internal/strconv.uint64pow10", "math/bits.deBruijn32tab", "math/bits.deBruijn64tab", "internal/bytealg.MaxLen"], apart := false, laid := [("math/bits.deBruijn32tab", laid_math_bits_deBruijn32tab), ("math/bits.deBruijn64tab", laid_math_bits_deBruijn64tab), ("internal/strconv.uint64pow10", laid_internal_strconv_uint64pow10), ("muleteer/ival.weights", laid_muleteer_ival_weights), ("unicode/utf8.acceptRanges", laid_unicode_utf8_acceptRanges), ("unicode/utf8.first", laid_unicode_utf8_first)] }
def ValidWindowSaid : Prop := validWindowRow.holds Tryz.pinned (OpenSpec.ofChange validWindowSpec)

/-- ITS FALSE NEIGHBOUR: 'it returns false'. Refute it at one input. -/
def validWindowWrong : ChangeSpec := { name := "validWindow", fn := fun _ => fun
  | [d1, d2] => { results := [.lit (.bool false)], args := [d1, d2] }
  | _ => none }
def ValidWindowWrongFalsely : Prop := validWindowRow.holds Tryz.pinned (OpenSpec.ofChange validWindowWrong)

/-- 'muleteerlaw18.CtrlFire': WHATEVER THE INPUT: true; the input reads as it did. -/
def ctrlFireSpec : ChangeSpec := { name := "ctrlFire", fn := fun _ => fun
  | [d1, d2, d3] => { results := [.lit (.bool true)], args := [d1, d2, d3] }
  | _ => none }
def ctrlFireRow : OpenClaim := { program := "ytnhlachoimlhhaagreatdoor", sum := "6e2ba44c99444734abfa811bad26f82ede0087e5d6f05b7e2088514865c20f33", func := "muleteer/muleteerlaw18.CtrlFire", spec := "ctrlFire", inPlace := ["internal/bytealg.IndexByteString", "math/bits.Add64", "slices.overlaps[int]", "slices.overlaps[muleteer/rset.pair]", "slices.overlaps[uint64]", "internal/bytealg.IndexString"], unfollowed := true, recurses := true, named := ["math/bits.divideError", "math/bits.overflowError", "muleteer/ival.weights", "unicode/utf8.first", "unicode/utf8.acceptRanges", "internal/strconv.uint64pow10", "math/bits.deBruijn32tab", "math/bits.deBruijn64tab", "internal/bytealg.MaxLen"], apart := false, laid := [("math/bits.deBruijn32tab", laid_math_bits_deBruijn32tab), ("math/bits.deBruijn64tab", laid_math_bits_deBruijn64tab), ("internal/strconv.uint64pow10", laid_internal_strconv_uint64pow10), ("muleteer/ival.weights", laid_muleteer_ival_weights), ("unicode/utf8.acceptRanges", laid_unicode_utf8_acceptRanges), ("unicode/utf8.first", laid_unicode_utf8_first)] }
def CtrlFireSaid : Prop := ctrlFireRow.holds Tryz.pinned (OpenSpec.ofChange ctrlFireSpec)

/-- ITS FALSE NEIGHBOUR: 'it returns false'. Refute it at one input. -/
def ctrlFireWrong : ChangeSpec := { name := "ctrlFire", fn := fun _ => fun
  | [d1, d2, d3] => { results := [.lit (.bool false)], args := [d1, d2, d3] }
  | _ => none }
def CtrlFireWrongFalsely : Prop := ctrlFireRow.holds Tryz.pinned (OpenSpec.ofChange ctrlFireWrong)

/-- 'muleteerlaw18.CtrlNoLoss': WHATEVER THE INPUT: true; the input reads as it did. -/
def ctrlNoLossSpec : ChangeSpec := { name := "ctrlNoLoss", fn := fun _ => fun
  | [d1, d2, d3, d4] => { results := [.lit (.bool true)], args := [d1, d2, d3, d4] }
  | _ => none }
def ctrlNoLossRow : OpenClaim := { program := "ytnhlachoimlhhaagreatdoor", sum := "6e2ba44c99444734abfa811bad26f82ede0087e5d6f05b7e2088514865c20f33", func := "muleteer/muleteerlaw18.CtrlNoLoss", spec := "ctrlNoLoss", inPlace := ["internal/bytealg.IndexByteString", "math/bits.Add64", "slices.overlaps[int]", "slices.overlaps[muleteer/rset.pair]", "slices.overlaps[uint64]", "internal/bytealg.IndexString"], unfollowed := true, recurses := true, named := ["math/bits.divideError", "math/bits.overflowError", "muleteer/ival.weights", "unicode/utf8.first", "unicode/utf8.acceptRanges", "internal/strconv.uint64pow10", "math/bits.deBruijn32tab", "math/bits.deBruijn64tab", "internal/bytealg.MaxLen"], apart := false, laid := [("math/bits.deBruijn32tab", laid_math_bits_deBruijn32tab), ("math/bits.deBruijn64tab", laid_math_bits_deBruijn64tab), ("internal/strconv.uint64pow10", laid_internal_strconv_uint64pow10), ("muleteer/ival.weights", laid_muleteer_ival_weights), ("unicode/utf8.acceptRanges", laid_unicode_utf8_acceptRanges), ("unicode/utf8.first", laid_unicode_utf8_first)] }
def CtrlNoLossSaid : Prop := ctrlNoLossRow.holds Tryz.pinned (OpenSpec.ofChange ctrlNoLossSpec)

/-- ITS FALSE NEIGHBOUR: 'it returns false'. Refute it at one input. -/
def ctrlNoLossWrong : ChangeSpec := { name := "ctrlNoLoss", fn := fun _ => fun
  | [d1, d2, d3, d4] => { results := [.lit (.bool false)], args := [d1, d2, d3, d4] }
  | _ => none }
def CtrlNoLossWrongFalsely : Prop := ctrlNoLossRow.holds Tryz.pinned (OpenSpec.ofChange ctrlNoLossWrong)

/-- 'muleteerlaw18.ValidShort': WHATEVER THE INPUT: true; the input reads as it did. -/
def validShortSpec : ChangeSpec := { name := "validShort", fn := fun _ => fun
  | [d1, d2, d3, d4] => { results := [.lit (.bool true)], args := [d1, d2, d3, d4] }
  | _ => none }
def validShortRow : OpenClaim := { program := "ytnhlachoimlhhaagreatdoor", sum := "6e2ba44c99444734abfa811bad26f82ede0087e5d6f05b7e2088514865c20f33", func := "muleteer/muleteerlaw18.ValidShort", spec := "validShort", inPlace := ["internal/bytealg.IndexByteString", "math/bits.Add64", "slices.overlaps[int]", "slices.overlaps[muleteer/rset.pair]", "slices.overlaps[uint64]", "internal/bytealg.IndexString"], unfollowed := true, recurses := true, named := ["math/bits.divideError", "math/bits.overflowError", "muleteer/ival.weights", "unicode/utf8.first", "unicode/utf8.acceptRanges", "internal/strconv.uint64pow10", "math/bits.deBruijn32tab", "math/bits.deBruijn64tab", "internal/bytealg.MaxLen"], apart := false, laid := [("math/bits.deBruijn32tab", laid_math_bits_deBruijn32tab), ("math/bits.deBruijn64tab", laid_math_bits_deBruijn64tab), ("internal/strconv.uint64pow10", laid_internal_strconv_uint64pow10), ("muleteer/ival.weights", laid_muleteer_ival_weights), ("unicode/utf8.acceptRanges", laid_unicode_utf8_acceptRanges), ("unicode/utf8.first", laid_unicode_utf8_first)] }
def ValidShortSaid : Prop := validShortRow.holds Tryz.pinned (OpenSpec.ofChange validShortSpec)

/-- ITS FALSE NEIGHBOUR: 'it returns false'. Refute it at one input. -/
def validShortWrong : ChangeSpec := { name := "validShort", fn := fun _ => fun
  | [d1, d2, d3, d4] => { results := [.lit (.bool false)], args := [d1, d2, d3, d4] }
  | _ => none }
def ValidShortWrongFalsely : Prop := validShortRow.holds Tryz.pinned (OpenSpec.ofChange validShortWrong)

/- THE SECOND FORM. 'bulk': how many values and letters a reading holds, each counted each time it is reached (what is shared counts as often as it is met; a slice's spare places count too). A statement '..UptoSaid' is the law's where the arguments, and the package variables that the reading takes, are together of bulk at most 1048576: NARROWER than '..Said'. Prove '..Said' where nothing that the law and all that it calls make is longer than what came in: it says more and counts as full. Else prove '..UptoSaid'. A law counts once. -/
mutual
def uptoBulk {H : Type} : DataW H → Nat
  | .lit (.string bytes) => bytes.length + 1
  | .lit _ => 1
  | .nil => 1
  | .ptr d => uptoBulk d + 1
  | .slice elems spare => uptoBulkAll elems + uptoBulkAll spare + 1
  | .agg parts => uptoBulkAll parts + 1
  | .iface _ d => uptoBulk d + 1
  | .map entries => uptoBulkEntries entries + 1
  | .held _ => 1
def uptoBulkAll {H : Type} : List (DataW H) → Nat
  | [] => 0
  | d :: r => uptoBulk d + uptoBulkAll r
def uptoBulkEntries {H : Type} : List (Lit × DataW H) → Nat
  | [] => 0
  | x :: r => uptoBulkEntry x + uptoBulkEntries r
def uptoBulkEntry {H : Type} : Lit × DataW H → Nat
  | (.string bytes, d) => bytes.length + uptoBulk d + 1
  | (_, d) => uptoBulk d + 1
 end
def uptoSmall : (H : Type) → List (DataW H) → Bool := fun _ ds => decide (uptoBulkAll ds ≤ 1048576)
def OpenSpec.upto (s : _root_.Go.ChangeSpec) : _root_.Go.OpenSpec := { _root_.Go.OpenSpec.ofChange s with cond := some uptoSmall }

/-- 'muleteerlaw18.NegoAll', WHERE WHAT IT READS IS OF BULK AT MOST 1048576: true; the input reads as it did. -/
def negoAllUptoRow : OpenClaim := { program := "ytnhlachoimlhhaagreatdoor", sum := "6e2ba44c99444734abfa811bad26f82ede0087e5d6f05b7e2088514865c20f33", func := "muleteer/muleteerlaw18.NegoAll", spec := "negoAll", inPlace := ["internal/bytealg.IndexByteString", "math/bits.Add64", "slices.overlaps[int]", "slices.overlaps[muleteer/rset.pair]", "slices.overlaps[uint64]", "internal/bytealg.IndexString"], unfollowed := true, recurses := true, named := ["math/bits.divideError", "math/bits.overflowError", "muleteer/ival.weights", "unicode/utf8.first", "unicode/utf8.acceptRanges", "internal/strconv.uint64pow10", "math/bits.deBruijn32tab", "math/bits.deBruijn64tab", "internal/bytealg.MaxLen"], apart := false, laid := [("math/bits.deBruijn32tab", laid_math_bits_deBruijn32tab), ("math/bits.deBruijn64tab", laid_math_bits_deBruijn64tab), ("internal/strconv.uint64pow10", laid_internal_strconv_uint64pow10), ("muleteer/ival.weights", laid_muleteer_ival_weights), ("unicode/utf8.acceptRanges", laid_unicode_utf8_acceptRanges), ("unicode/utf8.first", laid_unicode_utf8_first)], narrowed := true }
def NegoAllUptoSaid : Prop := negoAllUptoRow.holds Tryz.pinned (OpenSpec.upto negoAllSpec)

/-- 'muleteerlaw18.CtrlKinds', WHERE WHAT IT READS IS OF BULK AT MOST 1048576: true; the input reads as it did. -/
def ctrlKindsUptoRow : OpenClaim := { program := "ytnhlachoimlhhaagreatdoor", sum := "6e2ba44c99444734abfa811bad26f82ede0087e5d6f05b7e2088514865c20f33", func := "muleteer/muleteerlaw18.CtrlKinds", spec := "ctrlKinds", inPlace := ["internal/bytealg.IndexByteString", "math/bits.Add64", "slices.overlaps[int]", "slices.overlaps[muleteer/rset.pair]", "slices.overlaps[uint64]", "internal/bytealg.IndexString"], unfollowed := true, recurses := true, named := ["math/bits.divideError", "math/bits.overflowError", "muleteer/ival.weights", "unicode/utf8.first", "unicode/utf8.acceptRanges", "internal/strconv.uint64pow10", "math/bits.deBruijn32tab", "math/bits.deBruijn64tab", "internal/bytealg.MaxLen"], apart := false, laid := [("math/bits.deBruijn32tab", laid_math_bits_deBruijn32tab), ("math/bits.deBruijn64tab", laid_math_bits_deBruijn64tab), ("internal/strconv.uint64pow10", laid_internal_strconv_uint64pow10), ("muleteer/ival.weights", laid_muleteer_ival_weights), ("unicode/utf8.acceptRanges", laid_unicode_utf8_acceptRanges), ("unicode/utf8.first", laid_unicode_utf8_first)], narrowed := true }
def CtrlKindsUptoSaid : Prop := ctrlKindsUptoRow.holds Tryz.pinned (OpenSpec.upto ctrlKindsSpec)

/-- 'muleteerlaw18.ValidNext', WHERE WHAT IT READS IS OF BULK AT MOST 1048576: true; the input reads as it did. -/
def validNextUptoRow : OpenClaim := { program := "ytnhlachoimlhhaagreatdoor", sum := "6e2ba44c99444734abfa811bad26f82ede0087e5d6f05b7e2088514865c20f33", func := "muleteer/muleteerlaw18.ValidNext", spec := "validNext", inPlace := ["internal/bytealg.IndexByteString", "math/bits.Add64", "slices.overlaps[int]", "slices.overlaps[muleteer/rset.pair]", "slices.overlaps[uint64]", "internal/bytealg.IndexString"], unfollowed := true, recurses := true, named := ["math/bits.divideError", "math/bits.overflowError", "muleteer/ival.weights", "unicode/utf8.first", "unicode/utf8.acceptRanges", "internal/strconv.uint64pow10", "math/bits.deBruijn32tab", "math/bits.deBruijn64tab", "internal/bytealg.MaxLen"], apart := false, laid := [("math/bits.deBruijn32tab", laid_math_bits_deBruijn32tab), ("math/bits.deBruijn64tab", laid_math_bits_deBruijn64tab), ("internal/strconv.uint64pow10", laid_internal_strconv_uint64pow10), ("muleteer/ival.weights", laid_muleteer_ival_weights), ("unicode/utf8.acceptRanges", laid_unicode_utf8_acceptRanges), ("unicode/utf8.first", laid_unicode_utf8_first)], narrowed := true }
def ValidNextUptoSaid : Prop := validNextUptoRow.holds Tryz.pinned (OpenSpec.upto validNextSpec)

/-- 'muleteerlaw18.CtrlNone', WHERE WHAT IT READS IS OF BULK AT MOST 1048576: true; the input reads as it did. -/
def ctrlNoneUptoRow : OpenClaim := { program := "ytnhlachoimlhhaagreatdoor", sum := "6e2ba44c99444734abfa811bad26f82ede0087e5d6f05b7e2088514865c20f33", func := "muleteer/muleteerlaw18.CtrlNone", spec := "ctrlNone", inPlace := ["math/bits.Add64", "internal/bytealg.IndexByteString", "slices.overlaps[int]", "slices.overlaps[muleteer/rset.pair]", "slices.overlaps[uint64]", "internal/bytealg.IndexString"], unfollowed := true, recurses := true, named := ["math/bits.divideError", "math/bits.overflowError", "muleteer/ival.weights", "unicode/utf8.first", "unicode/utf8.acceptRanges", "internal/strconv.uint64pow10", "math/bits.deBruijn32tab", "math/bits.deBruijn64tab", "internal/bytealg.MaxLen"], apart := false, laid := [("math/bits.deBruijn32tab", laid_math_bits_deBruijn32tab), ("math/bits.deBruijn64tab", laid_math_bits_deBruijn64tab), ("internal/strconv.uint64pow10", laid_internal_strconv_uint64pow10), ("muleteer/ival.weights", laid_muleteer_ival_weights), ("unicode/utf8.acceptRanges", laid_unicode_utf8_acceptRanges), ("unicode/utf8.first", laid_unicode_utf8_first)], narrowed := true }
def CtrlNoneUptoSaid : Prop := ctrlNoneUptoRow.holds Tryz.pinned (OpenSpec.upto ctrlNoneSpec)

/-- 'muleteerlaw18.CtrlWait', WHERE WHAT IT READS IS OF BULK AT MOST 1048576: true; the input reads as it did. -/
def ctrlWaitUptoRow : OpenClaim := { program := "ytnhlachoimlhhaagreatdoor", sum := "6e2ba44c99444734abfa811bad26f82ede0087e5d6f05b7e2088514865c20f33", func := "muleteer/muleteerlaw18.CtrlWait", spec := "ctrlWait", inPlace := ["internal/bytealg.IndexByteString", "math/bits.Add64", "slices.overlaps[int]", "slices.overlaps[muleteer/rset.pair]", "slices.overlaps[uint64]", "internal/bytealg.IndexString"], unfollowed := true, recurses := true, named := ["math/bits.divideError", "math/bits.overflowError", "muleteer/ival.weights", "unicode/utf8.first", "unicode/utf8.acceptRanges", "internal/strconv.uint64pow10", "math/bits.deBruijn32tab", "math/bits.deBruijn64tab", "internal/bytealg.MaxLen"], apart := false, laid := [("math/bits.deBruijn32tab", laid_math_bits_deBruijn32tab), ("math/bits.deBruijn64tab", laid_math_bits_deBruijn64tab), ("internal/strconv.uint64pow10", laid_internal_strconv_uint64pow10), ("muleteer/ival.weights", laid_muleteer_ival_weights), ("unicode/utf8.acceptRanges", laid_unicode_utf8_acceptRanges), ("unicode/utf8.first", laid_unicode_utf8_first)], narrowed := true }
def CtrlWaitUptoSaid : Prop := ctrlWaitUptoRow.holds Tryz.pinned (OpenSpec.upto ctrlWaitSpec)

/-- 'muleteerlaw18.CtrlHear', WHERE WHAT IT READS IS OF BULK AT MOST 1048576: true; the input reads as it did. -/
def ctrlHearUptoRow : OpenClaim := { program := "ytnhlachoimlhhaagreatdoor", sum := "6e2ba44c99444734abfa811bad26f82ede0087e5d6f05b7e2088514865c20f33", func := "muleteer/muleteerlaw18.CtrlHear", spec := "ctrlHear", inPlace := ["internal/bytealg.IndexByteString", "math/bits.Add64", "slices.overlaps[int]", "slices.overlaps[muleteer/rset.pair]", "slices.overlaps[uint64]", "internal/bytealg.IndexString"], unfollowed := true, recurses := true, named := ["math/bits.divideError", "math/bits.overflowError", "muleteer/ival.weights", "unicode/utf8.first", "unicode/utf8.acceptRanges", "internal/strconv.uint64pow10", "math/bits.deBruijn32tab", "math/bits.deBruijn64tab", "internal/bytealg.MaxLen"], apart := false, laid := [("math/bits.deBruijn32tab", laid_math_bits_deBruijn32tab), ("math/bits.deBruijn64tab", laid_math_bits_deBruijn64tab), ("internal/strconv.uint64pow10", laid_internal_strconv_uint64pow10), ("muleteer/ival.weights", laid_muleteer_ival_weights), ("unicode/utf8.acceptRanges", laid_unicode_utf8_acceptRanges), ("unicode/utf8.first", laid_unicode_utf8_first)], narrowed := true }
def CtrlHearUptoSaid : Prop := ctrlHearUptoRow.holds Tryz.pinned (OpenSpec.upto ctrlHearSpec)

/-- 'muleteerlaw18.ValidStates', WHERE WHAT IT READS IS OF BULK AT MOST 1048576: true; the input reads as it did. -/
def validStatesUptoRow : OpenClaim := { program := "ytnhlachoimlhhaagreatdoor", sum := "6e2ba44c99444734abfa811bad26f82ede0087e5d6f05b7e2088514865c20f33", func := "muleteer/muleteerlaw18.ValidStates", spec := "validStates", inPlace := ["internal/bytealg.IndexByteString", "math/bits.Add64", "slices.overlaps[int]", "slices.overlaps[muleteer/rset.pair]", "slices.overlaps[uint64]", "internal/bytealg.IndexString"], unfollowed := true, recurses := true, named := ["math/bits.divideError", "math/bits.overflowError", "muleteer/ival.weights", "unicode/utf8.first", "unicode/utf8.acceptRanges", "internal/strconv.uint64pow10", "math/bits.deBruijn32tab", "math/bits.deBruijn64tab", "internal/bytealg.MaxLen"], apart := false, laid := [("math/bits.deBruijn32tab", laid_math_bits_deBruijn32tab), ("math/bits.deBruijn64tab", laid_math_bits_deBruijn64tab), ("internal/strconv.uint64pow10", laid_internal_strconv_uint64pow10), ("muleteer/ival.weights", laid_muleteer_ival_weights), ("unicode/utf8.acceptRanges", laid_unicode_utf8_acceptRanges), ("unicode/utf8.first", laid_unicode_utf8_first)], narrowed := true }
def ValidStatesUptoSaid : Prop := validStatesUptoRow.holds Tryz.pinned (OpenSpec.upto validStatesSpec)

/-- 'muleteerlaw18.ValidWindow', WHERE WHAT IT READS IS OF BULK AT MOST 1048576: true; the input reads as it did. -/
def validWindowUptoRow : OpenClaim := { program := "ytnhlachoimlhhaagreatdoor", sum := "6e2ba44c99444734abfa811bad26f82ede0087e5d6f05b7e2088514865c20f33", func := "muleteer/muleteerlaw18.ValidWindow", spec := "validWindow", inPlace := ["internal/bytealg.IndexByteString", "math/bits.Add64", "slices.overlaps[int]", "slices.overlaps[muleteer/rset.pair]", "slices.overlaps[uint64]", "internal/bytealg.IndexString"], unfollowed := true, recurses := true, named := ["math/bits.divideError", "math/bits.overflowError", "muleteer/ival.weights", "unicode/utf8.first", "unicode/utf8.acceptRanges", "internal/strconv.uint64pow10", "math/bits.deBruijn32tab", "math/bits.deBruijn64tab", "internal/bytealg.MaxLen"], apart := false, laid := [("math/bits.deBruijn32tab", laid_math_bits_deBruijn32tab), ("math/bits.deBruijn64tab", laid_math_bits_deBruijn64tab), ("internal/strconv.uint64pow10", laid_internal_strconv_uint64pow10), ("muleteer/ival.weights", laid_muleteer_ival_weights), ("unicode/utf8.acceptRanges", laid_unicode_utf8_acceptRanges), ("unicode/utf8.first", laid_unicode_utf8_first)], narrowed := true }
def ValidWindowUptoSaid : Prop := validWindowUptoRow.holds Tryz.pinned (OpenSpec.upto validWindowSpec)

/-- 'muleteerlaw18.CtrlFire', WHERE WHAT IT READS IS OF BULK AT MOST 1048576: true; the input reads as it did. -/
def ctrlFireUptoRow : OpenClaim := { program := "ytnhlachoimlhhaagreatdoor", sum := "6e2ba44c99444734abfa811bad26f82ede0087e5d6f05b7e2088514865c20f33", func := "muleteer/muleteerlaw18.CtrlFire", spec := "ctrlFire", inPlace := ["internal/bytealg.IndexByteString", "math/bits.Add64", "slices.overlaps[int]", "slices.overlaps[muleteer/rset.pair]", "slices.overlaps[uint64]", "internal/bytealg.IndexString"], unfollowed := true, recurses := true, named := ["math/bits.divideError", "math/bits.overflowError", "muleteer/ival.weights", "unicode/utf8.first", "unicode/utf8.acceptRanges", "internal/strconv.uint64pow10", "math/bits.deBruijn32tab", "math/bits.deBruijn64tab", "internal/bytealg.MaxLen"], apart := false, laid := [("math/bits.deBruijn32tab", laid_math_bits_deBruijn32tab), ("math/bits.deBruijn64tab", laid_math_bits_deBruijn64tab), ("internal/strconv.uint64pow10", laid_internal_strconv_uint64pow10), ("muleteer/ival.weights", laid_muleteer_ival_weights), ("unicode/utf8.acceptRanges", laid_unicode_utf8_acceptRanges), ("unicode/utf8.first", laid_unicode_utf8_first)], narrowed := true }
def CtrlFireUptoSaid : Prop := ctrlFireUptoRow.holds Tryz.pinned (OpenSpec.upto ctrlFireSpec)

/-- 'muleteerlaw18.CtrlNoLoss', WHERE WHAT IT READS IS OF BULK AT MOST 1048576: true; the input reads as it did. -/
def ctrlNoLossUptoRow : OpenClaim := { program := "ytnhlachoimlhhaagreatdoor", sum := "6e2ba44c99444734abfa811bad26f82ede0087e5d6f05b7e2088514865c20f33", func := "muleteer/muleteerlaw18.CtrlNoLoss", spec := "ctrlNoLoss", inPlace := ["internal/bytealg.IndexByteString", "math/bits.Add64", "slices.overlaps[int]", "slices.overlaps[muleteer/rset.pair]", "slices.overlaps[uint64]", "internal/bytealg.IndexString"], unfollowed := true, recurses := true, named := ["math/bits.divideError", "math/bits.overflowError", "muleteer/ival.weights", "unicode/utf8.first", "unicode/utf8.acceptRanges", "internal/strconv.uint64pow10", "math/bits.deBruijn32tab", "math/bits.deBruijn64tab", "internal/bytealg.MaxLen"], apart := false, laid := [("math/bits.deBruijn32tab", laid_math_bits_deBruijn32tab), ("math/bits.deBruijn64tab", laid_math_bits_deBruijn64tab), ("internal/strconv.uint64pow10", laid_internal_strconv_uint64pow10), ("muleteer/ival.weights", laid_muleteer_ival_weights), ("unicode/utf8.acceptRanges", laid_unicode_utf8_acceptRanges), ("unicode/utf8.first", laid_unicode_utf8_first)], narrowed := true }
def CtrlNoLossUptoSaid : Prop := ctrlNoLossUptoRow.holds Tryz.pinned (OpenSpec.upto ctrlNoLossSpec)

/-- 'muleteerlaw18.ValidShort', WHERE WHAT IT READS IS OF BULK AT MOST 1048576: true; the input reads as it did. -/
def validShortUptoRow : OpenClaim := { program := "ytnhlachoimlhhaagreatdoor", sum := "6e2ba44c99444734abfa811bad26f82ede0087e5d6f05b7e2088514865c20f33", func := "muleteer/muleteerlaw18.ValidShort", spec := "validShort", inPlace := ["internal/bytealg.IndexByteString", "math/bits.Add64", "slices.overlaps[int]", "slices.overlaps[muleteer/rset.pair]", "slices.overlaps[uint64]", "internal/bytealg.IndexString"], unfollowed := true, recurses := true, named := ["math/bits.divideError", "math/bits.overflowError", "muleteer/ival.weights", "unicode/utf8.first", "unicode/utf8.acceptRanges", "internal/strconv.uint64pow10", "math/bits.deBruijn32tab", "math/bits.deBruijn64tab", "internal/bytealg.MaxLen"], apart := false, laid := [("math/bits.deBruijn32tab", laid_math_bits_deBruijn32tab), ("math/bits.deBruijn64tab", laid_math_bits_deBruijn64tab), ("internal/strconv.uint64pow10", laid_internal_strconv_uint64pow10), ("muleteer/ival.weights", laid_muleteer_ival_weights), ("unicode/utf8.acceptRanges", laid_unicode_utf8_acceptRanges), ("unicode/utf8.first", laid_unicode_utf8_first)], narrowed := true }
def ValidShortUptoSaid : Prop := validShortUptoRow.holds Tryz.pinned (OpenSpec.upto validShortSpec)

end Rows
end Go.Proofs.YtnhlachoimlhhaaGreatDoor
