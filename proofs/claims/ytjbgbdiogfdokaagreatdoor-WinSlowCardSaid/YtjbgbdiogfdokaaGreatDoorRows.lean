/-
  NARROWER THAN 'FOR EVERY INPUT', by the rows' own cells (each row's printed sentence says how): WinSlow: laid · WinHalf: laid · WinFire: laid · TfrcHalves: laid · TfrcDoubles: laid · WinMarks: laid · WinAvoid: laid · TfrcLimited: laid.
  DERIVED. THE GIVEN ROWS OF THIS SEAT. 8 by the template 'for every input the law returns true; each argument reads behind the call as it read before'; 0 by the template 'total and deterministic' (their statements: YtjbgbdiogfdokaaGreatDoorTotals.lean).
  GIVEN WITH THE SEED: the statements are not yours to turn. If you find one false, say at which input.
  Laid BY PROGRAM, IN A SANDBOX (cutbox-rows.mjs): the forced cells as the released guide's own fill.sh prints them over the translation fe4bb0ddb39bd864… (all of the seat's roots in one cut). By AI agents, Wed Nov 11 2026. No macro, syntax, notation, axiom, sorry.
-/
import Derived.Test.YtjbgbdiogfdokaaGreatDoorChecked
import GoSem.PinnedTables
import GoSem.Claim
import GoSem.ClaimJoined
import GoSem.ClaimMapViews
import Derived.JoinedTies
import Derived.KernelRfl
namespace Go.Proofs.YtjbgbdiogfdokaaGreatDoor
/- THE CELL 'sum', in the pinned program and in every row, IS THE sha256 OF THE DUMP (.gsa) THAT YtjbgbdiogfdokaaGreatDoorProg.lean LOADS. Nothing in Lean hashes anything: it is a label: what it is worth is what the hold of that sum in a sandbox is worth. -/
noncomputable def Tryz.pinned : Pinned := { name := "ytjbgbdiogfdokaagreatdoor", sum := "fe4bb0ddb39bd864fccff0d54dda1be6311cf373f46f43dc8929e059c8fb0222", checked := Tryz.checked }
namespace Rows
def none {H : Type} : Left H := { results := [], args := [] }

/- WHAT THE LISTED PACKAGE-LEVEL VARIABLES READ AS WHEN THE CALL BEGINS. Each datum BY PROGRAM (the guide's laid-datum.mjs) off the statement by which the dump's own 'gosem.cut.vars' lays the variable. In a bare row this is a premise. The card (YtjbgbdiogfdokaaGreatDoorCards.lean) ties it to the program's text. -/
def laid_math_bits_deBruijn32tab {H : Type} : DataW H := .agg [.lit (.int .u8 0), .lit (.int .u8 1), .lit (.int .u8 28), .lit (.int .u8 2), .lit (.int .u8 29), .lit (.int .u8 14), .lit (.int .u8 24), .lit (.int .u8 3), .lit (.int .u8 30), .lit (.int .u8 22), .lit (.int .u8 20), .lit (.int .u8 15), .lit (.int .u8 25), .lit (.int .u8 17), .lit (.int .u8 4), .lit (.int .u8 8), .lit (.int .u8 31), .lit (.int .u8 27), .lit (.int .u8 13), .lit (.int .u8 23), .lit (.int .u8 21), .lit (.int .u8 19), .lit (.int .u8 16), .lit (.int .u8 7), .lit (.int .u8 26), .lit (.int .u8 12), .lit (.int .u8 18), .lit (.int .u8 6), .lit (.int .u8 11), .lit (.int .u8 5), .lit (.int .u8 10), .lit (.int .u8 9)]
def laid_math_bits_deBruijn64tab {H : Type} : DataW H := .agg [.lit (.int .u8 0), .lit (.int .u8 1), .lit (.int .u8 56), .lit (.int .u8 2), .lit (.int .u8 57), .lit (.int .u8 49), .lit (.int .u8 28), .lit (.int .u8 3), .lit (.int .u8 61), .lit (.int .u8 58), .lit (.int .u8 42), .lit (.int .u8 50), .lit (.int .u8 38), .lit (.int .u8 29), .lit (.int .u8 17), .lit (.int .u8 4), .lit (.int .u8 62), .lit (.int .u8 47), .lit (.int .u8 59), .lit (.int .u8 36), .lit (.int .u8 45), .lit (.int .u8 43), .lit (.int .u8 51), .lit (.int .u8 22), .lit (.int .u8 53), .lit (.int .u8 39), .lit (.int .u8 33), .lit (.int .u8 30), .lit (.int .u8 24), .lit (.int .u8 18), .lit (.int .u8 12), .lit (.int .u8 5), .lit (.int .u8 63), .lit (.int .u8 55), .lit (.int .u8 48), .lit (.int .u8 27), .lit (.int .u8 60), .lit (.int .u8 41), .lit (.int .u8 37), .lit (.int .u8 16), .lit (.int .u8 46), .lit (.int .u8 35), .lit (.int .u8 44), .lit (.int .u8 21), .lit (.int .u8 52), .lit (.int .u8 32), .lit (.int .u8 23), .lit (.int .u8 11), .lit (.int .u8 54), .lit (.int .u8 26), .lit (.int .u8 40), .lit (.int .u8 15), .lit (.int .u8 34), .lit (.int .u8 20), .lit (.int .u8 31), .lit (.int .u8 10), .lit (.int .u8 25), .lit (.int .u8 14), .lit (.int .u8 19), .lit (.int .u8 9), .lit (.int .u8 13), .lit (.int .u8 8), .lit (.int .u8 7), .lit (.int .u8 6)]
def laid_internal_strconv_uint64pow10 {H : Type} : DataW H := .agg [.lit (.int .u64 1), .lit (.int .u64 10), .lit (.int .u64 100), .lit (.int .u64 1000), .lit (.int .u64 10000), .lit (.int .u64 100000), .lit (.int .u64 1000000), .lit (.int .u64 10000000), .lit (.int .u64 100000000), .lit (.int .u64 1000000000), .lit (.int .u64 10000000000), .lit (.int .u64 100000000000), .lit (.int .u64 1000000000000), .lit (.int .u64 10000000000000), .lit (.int .u64 100000000000000), .lit (.int .u64 1000000000000000), .lit (.int .u64 10000000000000000), .lit (.int .u64 100000000000000000), .lit (.int .u64 1000000000000000000), .lit (.int .u64 10000000000000000000)]
def laid_muleteer_ival_weights {H : Type} : DataW H := .agg [.lit (.int .u64 5), .lit (.int .u64 5), .lit (.int .u64 5), .lit (.int .u64 5), .lit (.int .u64 4), .lit (.int .u64 3), .lit (.int .u64 2), .lit (.int .u64 1)]
def laid_unicode_utf8_acceptRanges {H : Type} : DataW H := .agg [.agg [.lit (.int .u8 128), .lit (.int .u8 191)], .agg [.lit (.int .u8 160), .lit (.int .u8 191)], .agg [.lit (.int .u8 128), .lit (.int .u8 159)], .agg [.lit (.int .u8 144), .lit (.int .u8 191)], .agg [.lit (.int .u8 128), .lit (.int .u8 143)], .agg [.lit (.int .u8 0), .lit (.int .u8 0)], .agg [.lit (.int .u8 0), .lit (.int .u8 0)], .agg [.lit (.int .u8 0), .lit (.int .u8 0)], .agg [.lit (.int .u8 0), .lit (.int .u8 0)], .agg [.lit (.int .u8 0), .lit (.int .u8 0)], .agg [.lit (.int .u8 0), .lit (.int .u8 0)], .agg [.lit (.int .u8 0), .lit (.int .u8 0)], .agg [.lit (.int .u8 0), .lit (.int .u8 0)], .agg [.lit (.int .u8 0), .lit (.int .u8 0)], .agg [.lit (.int .u8 0), .lit (.int .u8 0)], .agg [.lit (.int .u8 0), .lit (.int .u8 0)]]
/-- One of Go's own tables, pinned by name: the form's constant. -/
def laid_unicode_utf8_first : DataW Unit := Go.Pinned.utf8First

/-- 'muleteerlaw8.WinSlow': WHATEVER THE INPUT: true; the input reads as it did. -/
def winSlowSpec : ChangeSpec := { name := "winSlow", fn := fun _ => fun
  | [d] => { results := [.lit (.bool true)], args := [d] }
  | _ => none }
def winSlowRow : OpenClaim := { program := "ytjbgbdiogfdokaagreatdoor", sum := "fe4bb0ddb39bd864fccff0d54dda1be6311cf373f46f43dc8929e059c8fb0222", func := "muleteer/muleteerlaw8.WinSlow", spec := "winSlow", inPlace := ["slices.overlaps[int]", "slices.overlaps[muleteer/rset.pair]", "slices.overlaps[uint64]", "math/bits.Add64", "internal/bytealg.IndexByteString", "internal/bytealg.IndexString"], unfollowed := true, recurses := true, named := ["math/bits.divideError", "math/bits.overflowError", "muleteer/ival.weights", "unicode/utf8.first", "unicode/utf8.acceptRanges", "internal/strconv.uint64pow10", "math/bits.deBruijn32tab", "math/bits.deBruijn64tab", "internal/bytealg.MaxLen"], apart := false, laid := [("math/bits.deBruijn32tab", laid_math_bits_deBruijn32tab), ("math/bits.deBruijn64tab", laid_math_bits_deBruijn64tab), ("internal/strconv.uint64pow10", laid_internal_strconv_uint64pow10), ("muleteer/ival.weights", laid_muleteer_ival_weights), ("unicode/utf8.acceptRanges", laid_unicode_utf8_acceptRanges), ("unicode/utf8.first", laid_unicode_utf8_first)] }
def WinSlowSaid : Prop := winSlowRow.holds Tryz.pinned (OpenSpec.ofChange winSlowSpec)

/-- ITS FALSE NEIGHBOUR: 'it returns false'. Refute it at one input. -/
def winSlowWrong : ChangeSpec := { name := "winSlow", fn := fun _ => fun
  | [d] => { results := [.lit (.bool false)], args := [d] }
  | _ => none }
def WinSlowWrongFalsely : Prop := winSlowRow.holds Tryz.pinned (OpenSpec.ofChange winSlowWrong)

/-- 'muleteerlaw8.WinHalf': WHATEVER THE INPUT: true; the input reads as it did. -/
def winHalfSpec : ChangeSpec := { name := "winHalf", fn := fun _ => fun
  | [d1, d2] => { results := [.lit (.bool true)], args := [d1, d2] }
  | _ => none }
def winHalfRow : OpenClaim := { program := "ytjbgbdiogfdokaagreatdoor", sum := "fe4bb0ddb39bd864fccff0d54dda1be6311cf373f46f43dc8929e059c8fb0222", func := "muleteer/muleteerlaw8.WinHalf", spec := "winHalf", inPlace := ["slices.overlaps[int]", "slices.overlaps[muleteer/rset.pair]", "slices.overlaps[uint64]", "math/bits.Add64", "internal/bytealg.IndexByteString", "internal/bytealg.IndexString"], unfollowed := true, recurses := true, named := ["math/bits.divideError", "math/bits.overflowError", "muleteer/ival.weights", "unicode/utf8.first", "unicode/utf8.acceptRanges", "internal/strconv.uint64pow10", "math/bits.deBruijn32tab", "math/bits.deBruijn64tab", "internal/bytealg.MaxLen"], apart := false, laid := [("math/bits.deBruijn32tab", laid_math_bits_deBruijn32tab), ("math/bits.deBruijn64tab", laid_math_bits_deBruijn64tab), ("internal/strconv.uint64pow10", laid_internal_strconv_uint64pow10), ("muleteer/ival.weights", laid_muleteer_ival_weights), ("unicode/utf8.acceptRanges", laid_unicode_utf8_acceptRanges), ("unicode/utf8.first", laid_unicode_utf8_first)] }
def WinHalfSaid : Prop := winHalfRow.holds Tryz.pinned (OpenSpec.ofChange winHalfSpec)

/-- ITS FALSE NEIGHBOUR: 'it returns false'. Refute it at one input. -/
def winHalfWrong : ChangeSpec := { name := "winHalf", fn := fun _ => fun
  | [d1, d2] => { results := [.lit (.bool false)], args := [d1, d2] }
  | _ => none }
def WinHalfWrongFalsely : Prop := winHalfRow.holds Tryz.pinned (OpenSpec.ofChange winHalfWrong)

/-- 'muleteerlaw8.WinFire': WHATEVER THE INPUT: true; the input reads as it did. -/
def winFireSpec : ChangeSpec := { name := "winFire", fn := fun _ => fun
  | [d1, d2] => { results := [.lit (.bool true)], args := [d1, d2] }
  | _ => none }
def winFireRow : OpenClaim := { program := "ytjbgbdiogfdokaagreatdoor", sum := "fe4bb0ddb39bd864fccff0d54dda1be6311cf373f46f43dc8929e059c8fb0222", func := "muleteer/muleteerlaw8.WinFire", spec := "winFire", inPlace := ["slices.overlaps[int]", "slices.overlaps[muleteer/rset.pair]", "slices.overlaps[uint64]", "math/bits.Add64", "internal/bytealg.IndexByteString", "internal/bytealg.IndexString"], unfollowed := true, recurses := true, named := ["math/bits.divideError", "math/bits.overflowError", "muleteer/ival.weights", "unicode/utf8.first", "unicode/utf8.acceptRanges", "internal/strconv.uint64pow10", "math/bits.deBruijn32tab", "math/bits.deBruijn64tab", "internal/bytealg.MaxLen"], apart := false, laid := [("math/bits.deBruijn32tab", laid_math_bits_deBruijn32tab), ("math/bits.deBruijn64tab", laid_math_bits_deBruijn64tab), ("internal/strconv.uint64pow10", laid_internal_strconv_uint64pow10), ("muleteer/ival.weights", laid_muleteer_ival_weights), ("unicode/utf8.acceptRanges", laid_unicode_utf8_acceptRanges), ("unicode/utf8.first", laid_unicode_utf8_first)] }
def WinFireSaid : Prop := winFireRow.holds Tryz.pinned (OpenSpec.ofChange winFireSpec)

/-- ITS FALSE NEIGHBOUR: 'it returns false'. Refute it at one input. -/
def winFireWrong : ChangeSpec := { name := "winFire", fn := fun _ => fun
  | [d1, d2] => { results := [.lit (.bool false)], args := [d1, d2] }
  | _ => none }
def WinFireWrongFalsely : Prop := winFireRow.holds Tryz.pinned (OpenSpec.ofChange winFireWrong)

/-- 'muleteerlaw8.TfrcHalves': WHATEVER THE INPUT: true; the input reads as it did. -/
def tfrcHalvesSpec : ChangeSpec := { name := "tfrcHalves", fn := fun _ => fun
  | [d1, d2, d3, d4] => { results := [.lit (.bool true)], args := [d1, d2, d3, d4] }
  | _ => none }
def tfrcHalvesRow : OpenClaim := { program := "ytjbgbdiogfdokaagreatdoor", sum := "fe4bb0ddb39bd864fccff0d54dda1be6311cf373f46f43dc8929e059c8fb0222", func := "muleteer/muleteerlaw8.TfrcHalves", spec := "tfrcHalves", inPlace := ["slices.overlaps[int]", "slices.overlaps[muleteer/rset.pair]", "slices.overlaps[uint64]", "math/bits.Add64", "internal/bytealg.IndexByteString", "internal/bytealg.IndexString"], unfollowed := true, recurses := true, named := ["math/bits.divideError", "math/bits.overflowError", "muleteer/ival.weights", "unicode/utf8.first", "unicode/utf8.acceptRanges", "internal/strconv.uint64pow10", "math/bits.deBruijn32tab", "math/bits.deBruijn64tab", "internal/bytealg.MaxLen"], apart := false, laid := [("math/bits.deBruijn32tab", laid_math_bits_deBruijn32tab), ("math/bits.deBruijn64tab", laid_math_bits_deBruijn64tab), ("internal/strconv.uint64pow10", laid_internal_strconv_uint64pow10), ("muleteer/ival.weights", laid_muleteer_ival_weights), ("unicode/utf8.acceptRanges", laid_unicode_utf8_acceptRanges), ("unicode/utf8.first", laid_unicode_utf8_first)] }
def TfrcHalvesSaid : Prop := tfrcHalvesRow.holds Tryz.pinned (OpenSpec.ofChange tfrcHalvesSpec)

/-- ITS FALSE NEIGHBOUR: 'it returns false'. Refute it at one input. -/
def tfrcHalvesWrong : ChangeSpec := { name := "tfrcHalves", fn := fun _ => fun
  | [d1, d2, d3, d4] => { results := [.lit (.bool false)], args := [d1, d2, d3, d4] }
  | _ => none }
def TfrcHalvesWrongFalsely : Prop := tfrcHalvesRow.holds Tryz.pinned (OpenSpec.ofChange tfrcHalvesWrong)

/-- 'muleteerlaw8.TfrcDoubles': WHATEVER THE INPUT: true; the input reads as it did. -/
def tfrcDoublesSpec : ChangeSpec := { name := "tfrcDoubles", fn := fun _ => fun
  | [d1, d2, d3] => { results := [.lit (.bool true)], args := [d1, d2, d3] }
  | _ => none }
def tfrcDoublesRow : OpenClaim := { program := "ytjbgbdiogfdokaagreatdoor", sum := "fe4bb0ddb39bd864fccff0d54dda1be6311cf373f46f43dc8929e059c8fb0222", func := "muleteer/muleteerlaw8.TfrcDoubles", spec := "tfrcDoubles", inPlace := ["slices.overlaps[int]", "slices.overlaps[muleteer/rset.pair]", "slices.overlaps[uint64]", "math/bits.Add64", "internal/bytealg.IndexByteString", "internal/bytealg.IndexString"], unfollowed := true, recurses := true, named := ["math/bits.divideError", "math/bits.overflowError", "muleteer/ival.weights", "unicode/utf8.first", "unicode/utf8.acceptRanges", "internal/strconv.uint64pow10", "math/bits.deBruijn32tab", "math/bits.deBruijn64tab", "internal/bytealg.MaxLen"], apart := false, laid := [("math/bits.deBruijn32tab", laid_math_bits_deBruijn32tab), ("math/bits.deBruijn64tab", laid_math_bits_deBruijn64tab), ("internal/strconv.uint64pow10", laid_internal_strconv_uint64pow10), ("muleteer/ival.weights", laid_muleteer_ival_weights), ("unicode/utf8.acceptRanges", laid_unicode_utf8_acceptRanges), ("unicode/utf8.first", laid_unicode_utf8_first)] }
def TfrcDoublesSaid : Prop := tfrcDoublesRow.holds Tryz.pinned (OpenSpec.ofChange tfrcDoublesSpec)

/-- ITS FALSE NEIGHBOUR: 'it returns false'. Refute it at one input. -/
def tfrcDoublesWrong : ChangeSpec := { name := "tfrcDoubles", fn := fun _ => fun
  | [d1, d2, d3] => { results := [.lit (.bool false)], args := [d1, d2, d3] }
  | _ => none }
def TfrcDoublesWrongFalsely : Prop := tfrcDoublesRow.holds Tryz.pinned (OpenSpec.ofChange tfrcDoublesWrong)

/-- 'muleteerlaw8.WinMarks': WHATEVER THE INPUT: true; the input reads as it did. -/
def winMarksSpec : ChangeSpec := { name := "winMarks", fn := fun _ => fun
  | [d1, d2] => { results := [.lit (.bool true)], args := [d1, d2] }
  | _ => none }
def winMarksRow : OpenClaim := { program := "ytjbgbdiogfdokaagreatdoor", sum := "fe4bb0ddb39bd864fccff0d54dda1be6311cf373f46f43dc8929e059c8fb0222", func := "muleteer/muleteerlaw8.WinMarks", spec := "winMarks", inPlace := ["slices.overlaps[int]", "slices.overlaps[muleteer/rset.pair]", "slices.overlaps[uint64]", "math/bits.Add64", "internal/bytealg.IndexByteString", "internal/bytealg.IndexString"], unfollowed := true, recurses := true, named := ["math/bits.divideError", "math/bits.overflowError", "muleteer/ival.weights", "unicode/utf8.first", "unicode/utf8.acceptRanges", "internal/strconv.uint64pow10", "math/bits.deBruijn32tab", "math/bits.deBruijn64tab", "internal/bytealg.MaxLen"], apart := false, laid := [("math/bits.deBruijn32tab", laid_math_bits_deBruijn32tab), ("math/bits.deBruijn64tab", laid_math_bits_deBruijn64tab), ("internal/strconv.uint64pow10", laid_internal_strconv_uint64pow10), ("muleteer/ival.weights", laid_muleteer_ival_weights), ("unicode/utf8.acceptRanges", laid_unicode_utf8_acceptRanges), ("unicode/utf8.first", laid_unicode_utf8_first)] }
def WinMarksSaid : Prop := winMarksRow.holds Tryz.pinned (OpenSpec.ofChange winMarksSpec)

/-- ITS FALSE NEIGHBOUR: 'it returns false'. Refute it at one input. -/
def winMarksWrong : ChangeSpec := { name := "winMarks", fn := fun _ => fun
  | [d1, d2] => { results := [.lit (.bool false)], args := [d1, d2] }
  | _ => none }
def WinMarksWrongFalsely : Prop := winMarksRow.holds Tryz.pinned (OpenSpec.ofChange winMarksWrong)

/-- 'muleteerlaw8.WinAvoid': WHATEVER THE INPUT: true; the input reads as it did. -/
def winAvoidSpec : ChangeSpec := { name := "winAvoid", fn := fun _ => fun
  | [d1, d2] => { results := [.lit (.bool true)], args := [d1, d2] }
  | _ => none }
def winAvoidRow : OpenClaim := { program := "ytjbgbdiogfdokaagreatdoor", sum := "fe4bb0ddb39bd864fccff0d54dda1be6311cf373f46f43dc8929e059c8fb0222", func := "muleteer/muleteerlaw8.WinAvoid", spec := "winAvoid", inPlace := ["slices.overlaps[int]", "slices.overlaps[muleteer/rset.pair]", "slices.overlaps[uint64]", "math/bits.Add64", "internal/bytealg.IndexByteString", "internal/bytealg.IndexString"], unfollowed := true, recurses := true, named := ["math/bits.divideError", "math/bits.overflowError", "muleteer/ival.weights", "unicode/utf8.first", "unicode/utf8.acceptRanges", "internal/strconv.uint64pow10", "math/bits.deBruijn32tab", "math/bits.deBruijn64tab", "internal/bytealg.MaxLen"], apart := false, laid := [("math/bits.deBruijn32tab", laid_math_bits_deBruijn32tab), ("math/bits.deBruijn64tab", laid_math_bits_deBruijn64tab), ("internal/strconv.uint64pow10", laid_internal_strconv_uint64pow10), ("muleteer/ival.weights", laid_muleteer_ival_weights), ("unicode/utf8.acceptRanges", laid_unicode_utf8_acceptRanges), ("unicode/utf8.first", laid_unicode_utf8_first)] }
def WinAvoidSaid : Prop := winAvoidRow.holds Tryz.pinned (OpenSpec.ofChange winAvoidSpec)

/-- ITS FALSE NEIGHBOUR: 'it returns false'. Refute it at one input. -/
def winAvoidWrong : ChangeSpec := { name := "winAvoid", fn := fun _ => fun
  | [d1, d2] => { results := [.lit (.bool false)], args := [d1, d2] }
  | _ => none }
def WinAvoidWrongFalsely : Prop := winAvoidRow.holds Tryz.pinned (OpenSpec.ofChange winAvoidWrong)

/-- 'muleteerlaw8.TfrcLimited': WHATEVER THE INPUT: true; the input reads as it did. -/
def tfrcLimitedSpec : ChangeSpec := { name := "tfrcLimited", fn := fun _ => fun
  | [d1, d2, d3, d4, d5] => { results := [.lit (.bool true)], args := [d1, d2, d3, d4, d5] }
  | _ => none }
def tfrcLimitedRow : OpenClaim := { program := "ytjbgbdiogfdokaagreatdoor", sum := "fe4bb0ddb39bd864fccff0d54dda1be6311cf373f46f43dc8929e059c8fb0222", func := "muleteer/muleteerlaw8.TfrcLimited", spec := "tfrcLimited", inPlace := ["slices.overlaps[int]", "slices.overlaps[muleteer/rset.pair]", "slices.overlaps[uint64]", "math/bits.Add64", "internal/bytealg.IndexByteString", "internal/bytealg.IndexString"], unfollowed := true, recurses := true, named := ["math/bits.divideError", "math/bits.overflowError", "muleteer/ival.weights", "unicode/utf8.first", "unicode/utf8.acceptRanges", "internal/strconv.uint64pow10", "math/bits.deBruijn32tab", "math/bits.deBruijn64tab", "internal/bytealg.MaxLen"], apart := false, laid := [("math/bits.deBruijn32tab", laid_math_bits_deBruijn32tab), ("math/bits.deBruijn64tab", laid_math_bits_deBruijn64tab), ("internal/strconv.uint64pow10", laid_internal_strconv_uint64pow10), ("muleteer/ival.weights", laid_muleteer_ival_weights), ("unicode/utf8.acceptRanges", laid_unicode_utf8_acceptRanges), ("unicode/utf8.first", laid_unicode_utf8_first)] }
def TfrcLimitedSaid : Prop := tfrcLimitedRow.holds Tryz.pinned (OpenSpec.ofChange tfrcLimitedSpec)

/-- ITS FALSE NEIGHBOUR: 'it returns false'. Refute it at one input. -/
def tfrcLimitedWrong : ChangeSpec := { name := "tfrcLimited", fn := fun _ => fun
  | [d1, d2, d3, d4, d5] => { results := [.lit (.bool false)], args := [d1, d2, d3, d4, d5] }
  | _ => none }
def TfrcLimitedWrongFalsely : Prop := tfrcLimitedRow.holds Tryz.pinned (OpenSpec.ofChange tfrcLimitedWrong)

/- THE SECOND FORM. 'bulk': how many values and letters a reading holds, each counted each time it is reached (what is shared counts as often as it is met; a slice's spare places count too). A statement '..UptoSaid' is the law's where the arguments, and the package variables that the reading takes, are together of bulk at most 1048576: NARROWER than '..Said'. Prove '..Said' where nothing that the law and all that it calls make is longer than what came in: it says more and counts as full. Else prove '..UptoSaid'. A law counts once. -/
mutual
def uptoBulk {H : Type} : DataW H → Nat
  | .lit (.string bytes) => bytes.length + 1
  | .lit _ => 1
  | .nil => 1
  | .ptr d => uptoBulk d + 1
  | .slice elems spare => uptoBulkAll elems + uptoBulkAll spare + 1
  | .agg parts => uptoBulkAll parts + 1
  | .iface _ d => uptoBulk d + 1
  | .map entries => uptoBulkEntries entries + 1
  | .held _ => 1
def uptoBulkAll {H : Type} : List (DataW H) → Nat
  | [] => 0
  | d :: r => uptoBulk d + uptoBulkAll r
def uptoBulkEntries {H : Type} : List (Lit × DataW H) → Nat
  | [] => 0
  | x :: r => uptoBulkEntry x + uptoBulkEntries r
def uptoBulkEntry {H : Type} : Lit × DataW H → Nat
  | (.string bytes, d) => bytes.length + uptoBulk d + 1
  | (_, d) => uptoBulk d + 1
 end
def uptoSmall : (H : Type) → List (DataW H) → Bool := fun _ ds => decide (uptoBulkAll ds ≤ 1048576)
def OpenSpec.upto (s : _root_.Go.ChangeSpec) : _root_.Go.OpenSpec := { _root_.Go.OpenSpec.ofChange s with cond := some uptoSmall }

/-- 'muleteerlaw8.WinSlow', WHERE WHAT IT READS IS OF BULK AT MOST 1048576: true; the input reads as it did. -/
def winSlowUptoRow : OpenClaim := { program := "ytjbgbdiogfdokaagreatdoor", sum := "fe4bb0ddb39bd864fccff0d54dda1be6311cf373f46f43dc8929e059c8fb0222", func := "muleteer/muleteerlaw8.WinSlow", spec := "winSlow", inPlace := ["slices.overlaps[int]", "slices.overlaps[muleteer/rset.pair]", "slices.overlaps[uint64]", "math/bits.Add64", "internal/bytealg.IndexByteString", "internal/bytealg.IndexString"], unfollowed := true, recurses := true, named := ["math/bits.divideError", "math/bits.overflowError", "muleteer/ival.weights", "unicode/utf8.first", "unicode/utf8.acceptRanges", "internal/strconv.uint64pow10", "math/bits.deBruijn32tab", "math/bits.deBruijn64tab", "internal/bytealg.MaxLen"], apart := false, laid := [("math/bits.deBruijn32tab", laid_math_bits_deBruijn32tab), ("math/bits.deBruijn64tab", laid_math_bits_deBruijn64tab), ("internal/strconv.uint64pow10", laid_internal_strconv_uint64pow10), ("muleteer/ival.weights", laid_muleteer_ival_weights), ("unicode/utf8.acceptRanges", laid_unicode_utf8_acceptRanges), ("unicode/utf8.first", laid_unicode_utf8_first)], narrowed := true }
def WinSlowUptoSaid : Prop := winSlowUptoRow.holds Tryz.pinned (OpenSpec.upto winSlowSpec)

/-- 'muleteerlaw8.WinHalf', WHERE WHAT IT READS IS OF BULK AT MOST 1048576: true; the input reads as it did. -/
def winHalfUptoRow : OpenClaim := { program := "ytjbgbdiogfdokaagreatdoor", sum := "fe4bb0ddb39bd864fccff0d54dda1be6311cf373f46f43dc8929e059c8fb0222", func := "muleteer/muleteerlaw8.WinHalf", spec := "winHalf", inPlace := ["slices.overlaps[int]", "slices.overlaps[muleteer/rset.pair]", "slices.overlaps[uint64]", "math/bits.Add64", "internal/bytealg.IndexByteString", "internal/bytealg.IndexString"], unfollowed := true, recurses := true, named := ["math/bits.divideError", "math/bits.overflowError", "muleteer/ival.weights", "unicode/utf8.first", "unicode/utf8.acceptRanges", "internal/strconv.uint64pow10", "math/bits.deBruijn32tab", "math/bits.deBruijn64tab", "internal/bytealg.MaxLen"], apart := false, laid := [("math/bits.deBruijn32tab", laid_math_bits_deBruijn32tab), ("math/bits.deBruijn64tab", laid_math_bits_deBruijn64tab), ("internal/strconv.uint64pow10", laid_internal_strconv_uint64pow10), ("muleteer/ival.weights", laid_muleteer_ival_weights), ("unicode/utf8.acceptRanges", laid_unicode_utf8_acceptRanges), ("unicode/utf8.first", laid_unicode_utf8_first)], narrowed := true }
def WinHalfUptoSaid : Prop := winHalfUptoRow.holds Tryz.pinned (OpenSpec.upto winHalfSpec)

/-- 'muleteerlaw8.WinFire', WHERE WHAT IT READS IS OF BULK AT MOST 1048576: true; the input reads as it did. -/
def winFireUptoRow : OpenClaim := { program := "ytjbgbdiogfdokaagreatdoor", sum := "fe4bb0ddb39bd864fccff0d54dda1be6311cf373f46f43dc8929e059c8fb0222", func := "muleteer/muleteerlaw8.WinFire", spec := "winFire", inPlace := ["slices.overlaps[int]", "slices.overlaps[muleteer/rset.pair]", "slices.overlaps[uint64]", "math/bits.Add64", "internal/bytealg.IndexByteString", "internal/bytealg.IndexString"], unfollowed := true, recurses := true, named := ["math/bits.divideError", "math/bits.overflowError", "muleteer/ival.weights", "unicode/utf8.first", "unicode/utf8.acceptRanges", "internal/strconv.uint64pow10", "math/bits.deBruijn32tab", "math/bits.deBruijn64tab", "internal/bytealg.MaxLen"], apart := false, laid := [("math/bits.deBruijn32tab", laid_math_bits_deBruijn32tab), ("math/bits.deBruijn64tab", laid_math_bits_deBruijn64tab), ("internal/strconv.uint64pow10", laid_internal_strconv_uint64pow10), ("muleteer/ival.weights", laid_muleteer_ival_weights), ("unicode/utf8.acceptRanges", laid_unicode_utf8_acceptRanges), ("unicode/utf8.first", laid_unicode_utf8_first)], narrowed := true }
def WinFireUptoSaid : Prop := winFireUptoRow.holds Tryz.pinned (OpenSpec.upto winFireSpec)

/-- 'muleteerlaw8.TfrcHalves', WHERE WHAT IT READS IS OF BULK AT MOST 1048576: true; the input reads as it did. -/
def tfrcHalvesUptoRow : OpenClaim := { program := "ytjbgbdiogfdokaagreatdoor", sum := "fe4bb0ddb39bd864fccff0d54dda1be6311cf373f46f43dc8929e059c8fb0222", func := "muleteer/muleteerlaw8.TfrcHalves", spec := "tfrcHalves", inPlace := ["slices.overlaps[int]", "slices.overlaps[muleteer/rset.pair]", "slices.overlaps[uint64]", "math/bits.Add64", "internal/bytealg.IndexByteString", "internal/bytealg.IndexString"], unfollowed := true, recurses := true, named := ["math/bits.divideError", "math/bits.overflowError", "muleteer/ival.weights", "unicode/utf8.first", "unicode/utf8.acceptRanges", "internal/strconv.uint64pow10", "math/bits.deBruijn32tab", "math/bits.deBruijn64tab", "internal/bytealg.MaxLen"], apart := false, laid := [("math/bits.deBruijn32tab", laid_math_bits_deBruijn32tab), ("math/bits.deBruijn64tab", laid_math_bits_deBruijn64tab), ("internal/strconv.uint64pow10", laid_internal_strconv_uint64pow10), ("muleteer/ival.weights", laid_muleteer_ival_weights), ("unicode/utf8.acceptRanges", laid_unicode_utf8_acceptRanges), ("unicode/utf8.first", laid_unicode_utf8_first)], narrowed := true }
def TfrcHalvesUptoSaid : Prop := tfrcHalvesUptoRow.holds Tryz.pinned (OpenSpec.upto tfrcHalvesSpec)

/-- 'muleteerlaw8.TfrcDoubles', WHERE WHAT IT READS IS OF BULK AT MOST 1048576: true; the input reads as it did. -/
def tfrcDoublesUptoRow : OpenClaim := { program := "ytjbgbdiogfdokaagreatdoor", sum := "fe4bb0ddb39bd864fccff0d54dda1be6311cf373f46f43dc8929e059c8fb0222", func := "muleteer/muleteerlaw8.TfrcDoubles", spec := "tfrcDoubles", inPlace := ["slices.overlaps[int]", "slices.overlaps[muleteer/rset.pair]", "slices.overlaps[uint64]", "math/bits.Add64", "internal/bytealg.IndexByteString", "internal/bytealg.IndexString"], unfollowed := true, recurses := true, named := ["math/bits.divideError", "math/bits.overflowError", "muleteer/ival.weights", "unicode/utf8.first", "unicode/utf8.acceptRanges", "internal/strconv.uint64pow10", "math/bits.deBruijn32tab", "math/bits.deBruijn64tab", "internal/bytealg.MaxLen"], apart := false, laid := [("math/bits.deBruijn32tab", laid_math_bits_deBruijn32tab), ("math/bits.deBruijn64tab", laid_math_bits_deBruijn64tab), ("internal/strconv.uint64pow10", laid_internal_strconv_uint64pow10), ("muleteer/ival.weights", laid_muleteer_ival_weights), ("unicode/utf8.acceptRanges", laid_unicode_utf8_acceptRanges), ("unicode/utf8.first", laid_unicode_utf8_first)], narrowed := true }
def TfrcDoublesUptoSaid : Prop := tfrcDoublesUptoRow.holds Tryz.pinned (OpenSpec.upto tfrcDoublesSpec)

/-- 'muleteerlaw8.WinMarks', WHERE WHAT IT READS IS OF BULK AT MOST 1048576: true; the input reads as it did. -/
def winMarksUptoRow : OpenClaim := { program := "ytjbgbdiogfdokaagreatdoor", sum := "fe4bb0ddb39bd864fccff0d54dda1be6311cf373f46f43dc8929e059c8fb0222", func := "muleteer/muleteerlaw8.WinMarks", spec := "winMarks", inPlace := ["slices.overlaps[int]", "slices.overlaps[muleteer/rset.pair]", "slices.overlaps[uint64]", "math/bits.Add64", "internal/bytealg.IndexByteString", "internal/bytealg.IndexString"], unfollowed := true, recurses := true, named := ["math/bits.divideError", "math/bits.overflowError", "muleteer/ival.weights", "unicode/utf8.first", "unicode/utf8.acceptRanges", "internal/strconv.uint64pow10", "math/bits.deBruijn32tab", "math/bits.deBruijn64tab", "internal/bytealg.MaxLen"], apart := false, laid := [("math/bits.deBruijn32tab", laid_math_bits_deBruijn32tab), ("math/bits.deBruijn64tab", laid_math_bits_deBruijn64tab), ("internal/strconv.uint64pow10", laid_internal_strconv_uint64pow10), ("muleteer/ival.weights", laid_muleteer_ival_weights), ("unicode/utf8.acceptRanges", laid_unicode_utf8_acceptRanges), ("unicode/utf8.first", laid_unicode_utf8_first)], narrowed := true }
def WinMarksUptoSaid : Prop := winMarksUptoRow.holds Tryz.pinned (OpenSpec.upto winMarksSpec)

/-- 'muleteerlaw8.WinAvoid', WHERE WHAT IT READS IS OF BULK AT MOST 1048576: true; the input reads as it did. -/
def winAvoidUptoRow : OpenClaim := { program := "ytjbgbdiogfdokaagreatdoor", sum := "fe4bb0ddb39bd864fccff0d54dda1be6311cf373f46f43dc8929e059c8fb0222", func := "muleteer/muleteerlaw8.WinAvoid", spec := "winAvoid", inPlace := ["slices.overlaps[int]", "slices.overlaps[muleteer/rset.pair]", "slices.overlaps[uint64]", "math/bits.Add64", "internal/bytealg.IndexByteString", "internal/bytealg.IndexString"], unfollowed := true, recurses := true, named := ["math/bits.divideError", "math/bits.overflowError", "muleteer/ival.weights", "unicode/utf8.first", "unicode/utf8.acceptRanges", "internal/strconv.uint64pow10", "math/bits.deBruijn32tab", "math/bits.deBruijn64tab", "internal/bytealg.MaxLen"], apart := false, laid := [("math/bits.deBruijn32tab", laid_math_bits_deBruijn32tab), ("math/bits.deBruijn64tab", laid_math_bits_deBruijn64tab), ("internal/strconv.uint64pow10", laid_internal_strconv_uint64pow10), ("muleteer/ival.weights", laid_muleteer_ival_weights), ("unicode/utf8.acceptRanges", laid_unicode_utf8_acceptRanges), ("unicode/utf8.first", laid_unicode_utf8_first)], narrowed := true }
def WinAvoidUptoSaid : Prop := winAvoidUptoRow.holds Tryz.pinned (OpenSpec.upto winAvoidSpec)

/-- 'muleteerlaw8.TfrcLimited', WHERE WHAT IT READS IS OF BULK AT MOST 1048576: true; the input reads as it did. -/
def tfrcLimitedUptoRow : OpenClaim := { program := "ytjbgbdiogfdokaagreatdoor", sum := "fe4bb0ddb39bd864fccff0d54dda1be6311cf373f46f43dc8929e059c8fb0222", func := "muleteer/muleteerlaw8.TfrcLimited", spec := "tfrcLimited", inPlace := ["slices.overlaps[int]", "slices.overlaps[muleteer/rset.pair]", "slices.overlaps[uint64]", "math/bits.Add64", "internal/bytealg.IndexByteString", "internal/bytealg.IndexString"], unfollowed := true, recurses := true, named := ["math/bits.divideError", "math/bits.overflowError", "muleteer/ival.weights", "unicode/utf8.first", "unicode/utf8.acceptRanges", "internal/strconv.uint64pow10", "math/bits.deBruijn32tab", "math/bits.deBruijn64tab", "internal/bytealg.MaxLen"], apart := false, laid := [("math/bits.deBruijn32tab", laid_math_bits_deBruijn32tab), ("math/bits.deBruijn64tab", laid_math_bits_deBruijn64tab), ("internal/strconv.uint64pow10", laid_internal_strconv_uint64pow10), ("muleteer/ival.weights", laid_muleteer_ival_weights), ("unicode/utf8.acceptRanges", laid_unicode_utf8_acceptRanges), ("unicode/utf8.first", laid_unicode_utf8_first)], narrowed := true }
def TfrcLimitedUptoSaid : Prop := tfrcLimitedUptoRow.holds Tryz.pinned (OpenSpec.upto tfrcLimitedSpec)

end Rows
end Go.Proofs.YtjbgbdiogfdokaaGreatDoor
