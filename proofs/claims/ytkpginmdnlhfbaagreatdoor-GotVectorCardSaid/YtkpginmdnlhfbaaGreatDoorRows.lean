/-
  NARROWER THAN 'FOR EVERY INPUT', by the rows' own cells (each row's printed sentence says how): GotVector: laid · SentThree: laid · SentUnknown: laid · FeedNone: laid · FeedHoles: laid · GotForget: laid · SentFull: laid · SentRtt: laid · FeedRate: laid · FeedRound: laid.
  DERIVED. THE GIVEN ROWS OF THIS SEAT. 10 by the template 'for every input the law returns true; each argument reads behind the call as it read before'; 0 by the template 'total and deterministic' (their statements: YtkpginmdnlhfbaaGreatDoorTotals.lean).
  GIVEN WITH THE SEED: the statements are not yours to turn. If you find one false, say at which input.
  Laid BY PROGRAM, IN A SANDBOX (cutbox-rows.mjs): the forced cells as the released guide's own fill.sh prints them over the translation aa17b07003d74c8e… (all of the seat's roots in one cut). By AI agents, Wed Nov 11 2026. No macro, syntax, notation, axiom, sorry.
-/
import Derived.Test.YtkpginmdnlhfbaaGreatDoorChecked
import GoSem.PinnedTables
import GoSem.Claim
import GoSem.ClaimJoined
import GoSem.ClaimMapViews
import Derived.JoinedTies
import Derived.KernelRfl
namespace Go.Proofs.YtkpginmdnlhfbaaGreatDoor
/- THE CELL 'sum', in the pinned program and in every row, IS THE sha256 OF THE DUMP (.gsa) THAT YtkpginmdnlhfbaaGreatDoorProg.lean LOADS. Nothing in Lean hashes anything: it is a label: what it is worth is what the hold of that sum in a sandbox is worth. -/
noncomputable def Tryz.pinned : Pinned := { name := "ytkpginmdnlhfbaagreatdoor", sum := "aa17b07003d74c8e316b4843b9aff8fa1a08d7536a9d6bc8a262015653ed8224", checked := Tryz.checked }
namespace Rows
def none {H : Type} : Left H := { results := [], args := [] }

/- WHAT THE LISTED PACKAGE-LEVEL VARIABLES READ AS WHEN THE CALL BEGINS. Each datum BY PROGRAM (the guide's laid-datum.mjs) off the statement by which the dump's own 'gosem.cut.vars' lays the variable. In a bare row this is a premise. The card (YtkpginmdnlhfbaaGreatDoorCards.lean) ties it to the program's text. -/
def laid_math_bits_deBruijn32tab {H : Type} : DataW H := .agg [.lit (.int .u8 0), .lit (.int .u8 1), .lit (.int .u8 28), .lit (.int .u8 2), .lit (.int .u8 29), .lit (.int .u8 14), .lit (.int .u8 24), .lit (.int .u8 3), .lit (.int .u8 30), .lit (.int .u8 22), .lit (.int .u8 20), .lit (.int .u8 15), .lit (.int .u8 25), .lit (.int .u8 17), .lit (.int .u8 4), .lit (.int .u8 8), .lit (.int .u8 31), .lit (.int .u8 27), .lit (.int .u8 13), .lit (.int .u8 23), .lit (.int .u8 21), .lit (.int .u8 19), .lit (.int .u8 16), .lit (.int .u8 7), .lit (.int .u8 26), .lit (.int .u8 12), .lit (.int .u8 18), .lit (.int .u8 6), .lit (.int .u8 11), .lit (.int .u8 5), .lit (.int .u8 10), .lit (.int .u8 9)]
def laid_math_bits_deBruijn64tab {H : Type} : DataW H := .agg [.lit (.int .u8 0), .lit (.int .u8 1), .lit (.int .u8 56), .lit (.int .u8 2), .lit (.int .u8 57), .lit (.int .u8 49), .lit (.int .u8 28), .lit (.int .u8 3), .lit (.int .u8 61), .lit (.int .u8 58), .lit (.int .u8 42), .lit (.int .u8 50), .lit (.int .u8 38), .lit (.int .u8 29), .lit (.int .u8 17), .lit (.int .u8 4), .lit (.int .u8 62), .lit (.int .u8 47), .lit (.int .u8 59), .lit (.int .u8 36), .lit (.int .u8 45), .lit (.int .u8 43), .lit (.int .u8 51), .lit (.int .u8 22), .lit (.int .u8 53), .lit (.int .u8 39), .lit (.int .u8 33), .lit (.int .u8 30), .lit (.int .u8 24), .lit (.int .u8 18), .lit (.int .u8 12), .lit (.int .u8 5), .lit (.int .u8 63), .lit (.int .u8 55), .lit (.int .u8 48), .lit (.int .u8 27), .lit (.int .u8 60), .lit (.int .u8 41), .lit (.int .u8 37), .lit (.int .u8 16), .lit (.int .u8 46), .lit (.int .u8 35), .lit (.int .u8 44), .lit (.int .u8 21), .lit (.int .u8 52), .lit (.int .u8 32), .lit (.int .u8 23), .lit (.int .u8 11), .lit (.int .u8 54), .lit (.int .u8 26), .lit (.int .u8 40), .lit (.int .u8 15), .lit (.int .u8 34), .lit (.int .u8 20), .lit (.int .u8 31), .lit (.int .u8 10), .lit (.int .u8 25), .lit (.int .u8 14), .lit (.int .u8 19), .lit (.int .u8 9), .lit (.int .u8 13), .lit (.int .u8 8), .lit (.int .u8 7), .lit (.int .u8 6)]
def laid_internal_strconv_uint64pow10 {H : Type} : DataW H := .agg [.lit (.int .u64 1), .lit (.int .u64 10), .lit (.int .u64 100), .lit (.int .u64 1000), .lit (.int .u64 10000), .lit (.int .u64 100000), .lit (.int .u64 1000000), .lit (.int .u64 10000000), .lit (.int .u64 100000000), .lit (.int .u64 1000000000), .lit (.int .u64 10000000000), .lit (.int .u64 100000000000), .lit (.int .u64 1000000000000), .lit (.int .u64 10000000000000), .lit (.int .u64 100000000000000), .lit (.int .u64 1000000000000000), .lit (.int .u64 10000000000000000), .lit (.int .u64 100000000000000000), .lit (.int .u64 1000000000000000000), .lit (.int .u64 10000000000000000000)]
def laid_muleteer_ival_weights {H : Type} : DataW H := .agg [.lit (.int .u64 5), .lit (.int .u64 5), .lit (.int .u64 5), .lit (.int .u64 5), .lit (.int .u64 4), .lit (.int .u64 3), .lit (.int .u64 2), .lit (.int .u64 1)]
def laid_unicode_utf8_acceptRanges {H : Type} : DataW H := .agg [.agg [.lit (.int .u8 128), .lit (.int .u8 191)], .agg [.lit (.int .u8 160), .lit (.int .u8 191)], .agg [.lit (.int .u8 128), .lit (.int .u8 159)], .agg [.lit (.int .u8 144), .lit (.int .u8 191)], .agg [.lit (.int .u8 128), .lit (.int .u8 143)], .agg [.lit (.int .u8 0), .lit (.int .u8 0)], .agg [.lit (.int .u8 0), .lit (.int .u8 0)], .agg [.lit (.int .u8 0), .lit (.int .u8 0)], .agg [.lit (.int .u8 0), .lit (.int .u8 0)], .agg [.lit (.int .u8 0), .lit (.int .u8 0)], .agg [.lit (.int .u8 0), .lit (.int .u8 0)], .agg [.lit (.int .u8 0), .lit (.int .u8 0)], .agg [.lit (.int .u8 0), .lit (.int .u8 0)], .agg [.lit (.int .u8 0), .lit (.int .u8 0)], .agg [.lit (.int .u8 0), .lit (.int .u8 0)], .agg [.lit (.int .u8 0), .lit (.int .u8 0)]]
/-- One of Go's own tables, pinned by name: the form's constant. -/
def laid_unicode_utf8_first : DataW Unit := Go.Pinned.utf8First

/-- 'muleteerlaw8.GotVector': WHATEVER THE INPUT: true; the input reads as it did. -/
def gotVectorSpec : ChangeSpec := { name := "gotVector", fn := fun _ => fun
  | [d1, d2] => { results := [.lit (.bool true)], args := [d1, d2] }
  | _ => none }
def gotVectorRow : OpenClaim := { program := "ytkpginmdnlhfbaagreatdoor", sum := "aa17b07003d74c8e316b4843b9aff8fa1a08d7536a9d6bc8a262015653ed8224", func := "muleteer/muleteerlaw8.GotVector", spec := "gotVector", inPlace := ["slices.overlaps[int]", "slices.overlaps[muleteer/rset.pair]", "slices.overlaps[uint64]", "math/bits.Add64", "internal/bytealg.IndexByteString", "internal/bytealg.IndexString"], unfollowed := true, recurses := true, named := ["math/bits.divideError", "math/bits.overflowError", "muleteer/ival.weights", "unicode/utf8.first", "unicode/utf8.acceptRanges", "internal/strconv.uint64pow10", "math/bits.deBruijn32tab", "math/bits.deBruijn64tab", "internal/bytealg.MaxLen"], apart := false, laid := [("math/bits.deBruijn32tab", laid_math_bits_deBruijn32tab), ("math/bits.deBruijn64tab", laid_math_bits_deBruijn64tab), ("internal/strconv.uint64pow10", laid_internal_strconv_uint64pow10), ("muleteer/ival.weights", laid_muleteer_ival_weights), ("unicode/utf8.acceptRanges", laid_unicode_utf8_acceptRanges), ("unicode/utf8.first", laid_unicode_utf8_first)] }
def GotVectorSaid : Prop := gotVectorRow.holds Tryz.pinned (OpenSpec.ofChange gotVectorSpec)

/-- ITS FALSE NEIGHBOUR: 'it returns false'. Refute it at one input. -/
def gotVectorWrong : ChangeSpec := { name := "gotVector", fn := fun _ => fun
  | [d1, d2] => { results := [.lit (.bool false)], args := [d1, d2] }
  | _ => none }
def GotVectorWrongFalsely : Prop := gotVectorRow.holds Tryz.pinned (OpenSpec.ofChange gotVectorWrong)

/-- 'muleteerlaw8.SentThree': WHATEVER THE INPUT: true; the input reads as it did. -/
def sentThreeSpec : ChangeSpec := { name := "sentThree", fn := fun _ => fun
  | [d1, d2, d3] => { results := [.lit (.bool true)], args := [d1, d2, d3] }
  | _ => none }
def sentThreeRow : OpenClaim := { program := "ytkpginmdnlhfbaagreatdoor", sum := "aa17b07003d74c8e316b4843b9aff8fa1a08d7536a9d6bc8a262015653ed8224", func := "muleteer/muleteerlaw8.SentThree", spec := "sentThree", inPlace := ["slices.overlaps[int]", "slices.overlaps[muleteer/rset.pair]", "slices.overlaps[uint64]", "math/bits.Add64", "internal/bytealg.IndexByteString", "internal/bytealg.IndexString"], unfollowed := true, recurses := true, named := ["math/bits.divideError", "math/bits.overflowError", "muleteer/ival.weights", "unicode/utf8.first", "unicode/utf8.acceptRanges", "internal/strconv.uint64pow10", "math/bits.deBruijn32tab", "math/bits.deBruijn64tab", "internal/bytealg.MaxLen"], apart := false, laid := [("math/bits.deBruijn32tab", laid_math_bits_deBruijn32tab), ("math/bits.deBruijn64tab", laid_math_bits_deBruijn64tab), ("internal/strconv.uint64pow10", laid_internal_strconv_uint64pow10), ("muleteer/ival.weights", laid_muleteer_ival_weights), ("unicode/utf8.acceptRanges", laid_unicode_utf8_acceptRanges), ("unicode/utf8.first", laid_unicode_utf8_first)] }
def SentThreeSaid : Prop := sentThreeRow.holds Tryz.pinned (OpenSpec.ofChange sentThreeSpec)

/-- ITS FALSE NEIGHBOUR: 'it returns false'. Refute it at one input. -/
def sentThreeWrong : ChangeSpec := { name := "sentThree", fn := fun _ => fun
  | [d1, d2, d3] => { results := [.lit (.bool false)], args := [d1, d2, d3] }
  | _ => none }
def SentThreeWrongFalsely : Prop := sentThreeRow.holds Tryz.pinned (OpenSpec.ofChange sentThreeWrong)

/-- 'muleteerlaw8.SentUnknown': WHATEVER THE INPUT: true; the input reads as it did. -/
def sentUnknownSpec : ChangeSpec := { name := "sentUnknown", fn := fun _ => fun
  | [d1, d2, d3, d4] => { results := [.lit (.bool true)], args := [d1, d2, d3, d4] }
  | _ => none }
def sentUnknownRow : OpenClaim := { program := "ytkpginmdnlhfbaagreatdoor", sum := "aa17b07003d74c8e316b4843b9aff8fa1a08d7536a9d6bc8a262015653ed8224", func := "muleteer/muleteerlaw8.SentUnknown", spec := "sentUnknown", inPlace := ["slices.overlaps[int]", "slices.overlaps[muleteer/rset.pair]", "slices.overlaps[uint64]", "math/bits.Add64", "internal/bytealg.IndexByteString", "internal/bytealg.IndexString"], unfollowed := true, recurses := true, named := ["math/bits.divideError", "math/bits.overflowError", "muleteer/ival.weights", "unicode/utf8.first", "unicode/utf8.acceptRanges", "internal/strconv.uint64pow10", "math/bits.deBruijn32tab", "math/bits.deBruijn64tab", "internal/bytealg.MaxLen"], apart := false, laid := [("math/bits.deBruijn32tab", laid_math_bits_deBruijn32tab), ("math/bits.deBruijn64tab", laid_math_bits_deBruijn64tab), ("internal/strconv.uint64pow10", laid_internal_strconv_uint64pow10), ("muleteer/ival.weights", laid_muleteer_ival_weights), ("unicode/utf8.acceptRanges", laid_unicode_utf8_acceptRanges), ("unicode/utf8.first", laid_unicode_utf8_first)] }
def SentUnknownSaid : Prop := sentUnknownRow.holds Tryz.pinned (OpenSpec.ofChange sentUnknownSpec)

/-- ITS FALSE NEIGHBOUR: 'it returns false'. Refute it at one input. -/
def sentUnknownWrong : ChangeSpec := { name := "sentUnknown", fn := fun _ => fun
  | [d1, d2, d3, d4] => { results := [.lit (.bool false)], args := [d1, d2, d3, d4] }
  | _ => none }
def SentUnknownWrongFalsely : Prop := sentUnknownRow.holds Tryz.pinned (OpenSpec.ofChange sentUnknownWrong)

/-- 'muleteerlaw8.FeedNone': WHATEVER THE INPUT: true; the input reads as it did. -/
def feedNoneSpec : ChangeSpec := { name := "feedNone", fn := fun _ => fun
  | [d1, d2, d3] => { results := [.lit (.bool true)], args := [d1, d2, d3] }
  | _ => none }
def feedNoneRow : OpenClaim := { program := "ytkpginmdnlhfbaagreatdoor", sum := "aa17b07003d74c8e316b4843b9aff8fa1a08d7536a9d6bc8a262015653ed8224", func := "muleteer/muleteerlaw8.FeedNone", spec := "feedNone", inPlace := ["slices.overlaps[int]", "slices.overlaps[muleteer/rset.pair]", "slices.overlaps[uint64]", "math/bits.Add64", "internal/bytealg.IndexByteString", "internal/bytealg.IndexString"], unfollowed := true, recurses := true, named := ["math/bits.divideError", "math/bits.overflowError", "muleteer/ival.weights", "unicode/utf8.first", "unicode/utf8.acceptRanges", "internal/strconv.uint64pow10", "math/bits.deBruijn32tab", "math/bits.deBruijn64tab", "internal/bytealg.MaxLen"], apart := false, laid := [("math/bits.deBruijn32tab", laid_math_bits_deBruijn32tab), ("math/bits.deBruijn64tab", laid_math_bits_deBruijn64tab), ("internal/strconv.uint64pow10", laid_internal_strconv_uint64pow10), ("muleteer/ival.weights", laid_muleteer_ival_weights), ("unicode/utf8.acceptRanges", laid_unicode_utf8_acceptRanges), ("unicode/utf8.first", laid_unicode_utf8_first)] }
def FeedNoneSaid : Prop := feedNoneRow.holds Tryz.pinned (OpenSpec.ofChange feedNoneSpec)

/-- ITS FALSE NEIGHBOUR: 'it returns false'. Refute it at one input. -/
def feedNoneWrong : ChangeSpec := { name := "feedNone", fn := fun _ => fun
  | [d1, d2, d3] => { results := [.lit (.bool false)], args := [d1, d2, d3] }
  | _ => none }
def FeedNoneWrongFalsely : Prop := feedNoneRow.holds Tryz.pinned (OpenSpec.ofChange feedNoneWrong)

/-- 'muleteerlaw8.FeedHoles': WHATEVER THE INPUT: true; the input reads as it did. -/
def feedHolesSpec : ChangeSpec := { name := "feedHoles", fn := fun _ => fun
  | [d1, d2, d3, d4] => { results := [.lit (.bool true)], args := [d1, d2, d3, d4] }
  | _ => none }
def feedHolesRow : OpenClaim := { program := "ytkpginmdnlhfbaagreatdoor", sum := "aa17b07003d74c8e316b4843b9aff8fa1a08d7536a9d6bc8a262015653ed8224", func := "muleteer/muleteerlaw8.FeedHoles", spec := "feedHoles", inPlace := ["slices.overlaps[int]", "slices.overlaps[muleteer/rset.pair]", "slices.overlaps[uint64]", "math/bits.Add64", "internal/bytealg.IndexByteString", "internal/bytealg.IndexString"], unfollowed := true, recurses := true, named := ["math/bits.divideError", "math/bits.overflowError", "muleteer/ival.weights", "unicode/utf8.first", "unicode/utf8.acceptRanges", "internal/strconv.uint64pow10", "math/bits.deBruijn32tab", "math/bits.deBruijn64tab", "internal/bytealg.MaxLen"], apart := false, laid := [("math/bits.deBruijn32tab", laid_math_bits_deBruijn32tab), ("math/bits.deBruijn64tab", laid_math_bits_deBruijn64tab), ("internal/strconv.uint64pow10", laid_internal_strconv_uint64pow10), ("muleteer/ival.weights", laid_muleteer_ival_weights), ("unicode/utf8.acceptRanges", laid_unicode_utf8_acceptRanges), ("unicode/utf8.first", laid_unicode_utf8_first)] }
def FeedHolesSaid : Prop := feedHolesRow.holds Tryz.pinned (OpenSpec.ofChange feedHolesSpec)

/-- ITS FALSE NEIGHBOUR: 'it returns false'. Refute it at one input. -/
def feedHolesWrong : ChangeSpec := { name := "feedHoles", fn := fun _ => fun
  | [d1, d2, d3, d4] => { results := [.lit (.bool false)], args := [d1, d2, d3, d4] }
  | _ => none }
def FeedHolesWrongFalsely : Prop := feedHolesRow.holds Tryz.pinned (OpenSpec.ofChange feedHolesWrong)

/-- 'muleteerlaw8.GotForget': WHATEVER THE INPUT: true; the input reads as it did. -/
def gotForgetSpec : ChangeSpec := { name := "gotForget", fn := fun _ => fun
  | [d1, d2, d3] => { results := [.lit (.bool true)], args := [d1, d2, d3] }
  | _ => none }
def gotForgetRow : OpenClaim := { program := "ytkpginmdnlhfbaagreatdoor", sum := "aa17b07003d74c8e316b4843b9aff8fa1a08d7536a9d6bc8a262015653ed8224", func := "muleteer/muleteerlaw8.GotForget", spec := "gotForget", inPlace := ["slices.overlaps[int]", "slices.overlaps[muleteer/rset.pair]", "slices.overlaps[uint64]", "math/bits.Add64", "internal/bytealg.IndexByteString", "internal/bytealg.IndexString"], unfollowed := true, recurses := true, named := ["math/bits.divideError", "math/bits.overflowError", "muleteer/ival.weights", "unicode/utf8.first", "unicode/utf8.acceptRanges", "internal/strconv.uint64pow10", "math/bits.deBruijn32tab", "math/bits.deBruijn64tab", "internal/bytealg.MaxLen"], apart := false, laid := [("math/bits.deBruijn32tab", laid_math_bits_deBruijn32tab), ("math/bits.deBruijn64tab", laid_math_bits_deBruijn64tab), ("internal/strconv.uint64pow10", laid_internal_strconv_uint64pow10), ("muleteer/ival.weights", laid_muleteer_ival_weights), ("unicode/utf8.acceptRanges", laid_unicode_utf8_acceptRanges), ("unicode/utf8.first", laid_unicode_utf8_first)] }
def GotForgetSaid : Prop := gotForgetRow.holds Tryz.pinned (OpenSpec.ofChange gotForgetSpec)

/-- ITS FALSE NEIGHBOUR: 'it returns false'. Refute it at one input. -/
def gotForgetWrong : ChangeSpec := { name := "gotForget", fn := fun _ => fun
  | [d1, d2, d3] => { results := [.lit (.bool false)], args := [d1, d2, d3] }
  | _ => none }
def GotForgetWrongFalsely : Prop := gotForgetRow.holds Tryz.pinned (OpenSpec.ofChange gotForgetWrong)

/-- 'muleteerlaw8.SentFull': WHATEVER THE INPUT: true; the input reads as it did. -/
def sentFullSpec : ChangeSpec := { name := "sentFull", fn := fun _ => fun
  | [d1, d2] => { results := [.lit (.bool true)], args := [d1, d2] }
  | _ => none }
def sentFullRow : OpenClaim := { program := "ytkpginmdnlhfbaagreatdoor", sum := "aa17b07003d74c8e316b4843b9aff8fa1a08d7536a9d6bc8a262015653ed8224", func := "muleteer/muleteerlaw8.SentFull", spec := "sentFull", inPlace := ["slices.overlaps[int]", "slices.overlaps[muleteer/rset.pair]", "slices.overlaps[uint64]", "math/bits.Add64", "internal/bytealg.IndexByteString", "internal/bytealg.IndexString"], unfollowed := true, recurses := true, named := ["math/bits.divideError", "math/bits.overflowError", "muleteer/ival.weights", "unicode/utf8.first", "unicode/utf8.acceptRanges", "internal/strconv.uint64pow10", "math/bits.deBruijn32tab", "math/bits.deBruijn64tab", "internal/bytealg.MaxLen"], apart := false, laid := [("math/bits.deBruijn32tab", laid_math_bits_deBruijn32tab), ("math/bits.deBruijn64tab", laid_math_bits_deBruijn64tab), ("internal/strconv.uint64pow10", laid_internal_strconv_uint64pow10), ("muleteer/ival.weights", laid_muleteer_ival_weights), ("unicode/utf8.acceptRanges", laid_unicode_utf8_acceptRanges), ("unicode/utf8.first", laid_unicode_utf8_first)] }
def SentFullSaid : Prop := sentFullRow.holds Tryz.pinned (OpenSpec.ofChange sentFullSpec)

/-- ITS FALSE NEIGHBOUR: 'it returns false'. Refute it at one input. -/
def sentFullWrong : ChangeSpec := { name := "sentFull", fn := fun _ => fun
  | [d1, d2] => { results := [.lit (.bool false)], args := [d1, d2] }
  | _ => none }
def SentFullWrongFalsely : Prop := sentFullRow.holds Tryz.pinned (OpenSpec.ofChange sentFullWrong)

/-- 'muleteerlaw8.SentRtt': WHATEVER THE INPUT: true; the input reads as it did. -/
def sentRttSpec : ChangeSpec := { name := "sentRtt", fn := fun _ => fun
  | [d1, d2, d3] => { results := [.lit (.bool true)], args := [d1, d2, d3] }
  | _ => none }
def sentRttRow : OpenClaim := { program := "ytkpginmdnlhfbaagreatdoor", sum := "aa17b07003d74c8e316b4843b9aff8fa1a08d7536a9d6bc8a262015653ed8224", func := "muleteer/muleteerlaw8.SentRtt", spec := "sentRtt", inPlace := ["slices.overlaps[int]", "slices.overlaps[muleteer/rset.pair]", "slices.overlaps[uint64]", "math/bits.Add64", "internal/bytealg.IndexByteString", "internal/bytealg.IndexString"], unfollowed := true, recurses := true, named := ["math/bits.divideError", "math/bits.overflowError", "muleteer/ival.weights", "unicode/utf8.first", "unicode/utf8.acceptRanges", "internal/strconv.uint64pow10", "math/bits.deBruijn32tab", "math/bits.deBruijn64tab", "internal/bytealg.MaxLen"], apart := false, laid := [("math/bits.deBruijn32tab", laid_math_bits_deBruijn32tab), ("math/bits.deBruijn64tab", laid_math_bits_deBruijn64tab), ("internal/strconv.uint64pow10", laid_internal_strconv_uint64pow10), ("muleteer/ival.weights", laid_muleteer_ival_weights), ("unicode/utf8.acceptRanges", laid_unicode_utf8_acceptRanges), ("unicode/utf8.first", laid_unicode_utf8_first)] }
def SentRttSaid : Prop := sentRttRow.holds Tryz.pinned (OpenSpec.ofChange sentRttSpec)

/-- ITS FALSE NEIGHBOUR: 'it returns false'. Refute it at one input. -/
def sentRttWrong : ChangeSpec := { name := "sentRtt", fn := fun _ => fun
  | [d1, d2, d3] => { results := [.lit (.bool false)], args := [d1, d2, d3] }
  | _ => none }
def SentRttWrongFalsely : Prop := sentRttRow.holds Tryz.pinned (OpenSpec.ofChange sentRttWrong)

/-- 'muleteerlaw8.FeedRate': WHATEVER THE INPUT: true; the input reads as it did. -/
def feedRateSpec : ChangeSpec := { name := "feedRate", fn := fun _ => fun
  | [d1, d2] => { results := [.lit (.bool true)], args := [d1, d2] }
  | _ => none }
def feedRateRow : OpenClaim := { program := "ytkpginmdnlhfbaagreatdoor", sum := "aa17b07003d74c8e316b4843b9aff8fa1a08d7536a9d6bc8a262015653ed8224", func := "muleteer/muleteerlaw8.FeedRate", spec := "feedRate", inPlace := ["slices.overlaps[int]", "slices.overlaps[muleteer/rset.pair]", "slices.overlaps[uint64]", "math/bits.Add64", "internal/bytealg.IndexByteString", "internal/bytealg.IndexString"], unfollowed := true, recurses := true, named := ["math/bits.divideError", "math/bits.overflowError", "muleteer/ival.weights", "unicode/utf8.first", "unicode/utf8.acceptRanges", "internal/strconv.uint64pow10", "math/bits.deBruijn32tab", "math/bits.deBruijn64tab", "internal/bytealg.MaxLen"], apart := false, laid := [("math/bits.deBruijn32tab", laid_math_bits_deBruijn32tab), ("math/bits.deBruijn64tab", laid_math_bits_deBruijn64tab), ("internal/strconv.uint64pow10", laid_internal_strconv_uint64pow10), ("muleteer/ival.weights", laid_muleteer_ival_weights), ("unicode/utf8.acceptRanges", laid_unicode_utf8_acceptRanges), ("unicode/utf8.first", laid_unicode_utf8_first)] }
def FeedRateSaid : Prop := feedRateRow.holds Tryz.pinned (OpenSpec.ofChange feedRateSpec)

/-- ITS FALSE NEIGHBOUR: 'it returns false'. Refute it at one input. -/
def feedRateWrong : ChangeSpec := { name := "feedRate", fn := fun _ => fun
  | [d1, d2] => { results := [.lit (.bool false)], args := [d1, d2] }
  | _ => none }
def FeedRateWrongFalsely : Prop := feedRateRow.holds Tryz.pinned (OpenSpec.ofChange feedRateWrong)

/-- 'muleteerlaw8.FeedRound': WHATEVER THE INPUT: true; the input reads as it did. -/
def feedRoundSpec : ChangeSpec := { name := "feedRound", fn := fun _ => fun
  | [d1, d2] => { results := [.lit (.bool true)], args := [d1, d2] }
  | _ => none }
def feedRoundRow : OpenClaim := { program := "ytkpginmdnlhfbaagreatdoor", sum := "aa17b07003d74c8e316b4843b9aff8fa1a08d7536a9d6bc8a262015653ed8224", func := "muleteer/muleteerlaw8.FeedRound", spec := "feedRound", inPlace := ["slices.overlaps[int]", "slices.overlaps[muleteer/rset.pair]", "slices.overlaps[uint64]", "math/bits.Add64", "internal/bytealg.IndexByteString", "internal/bytealg.IndexString"], unfollowed := true, recurses := true, named := ["math/bits.divideError", "math/bits.overflowError", "muleteer/ival.weights", "unicode/utf8.first", "unicode/utf8.acceptRanges", "internal/strconv.uint64pow10", "math/bits.deBruijn32tab", "math/bits.deBruijn64tab", "internal/bytealg.MaxLen"], apart := false, laid := [("math/bits.deBruijn32tab", laid_math_bits_deBruijn32tab), ("math/bits.deBruijn64tab", laid_math_bits_deBruijn64tab), ("internal/strconv.uint64pow10", laid_internal_strconv_uint64pow10), ("muleteer/ival.weights", laid_muleteer_ival_weights), ("unicode/utf8.acceptRanges", laid_unicode_utf8_acceptRanges), ("unicode/utf8.first", laid_unicode_utf8_first)] }
def FeedRoundSaid : Prop := feedRoundRow.holds Tryz.pinned (OpenSpec.ofChange feedRoundSpec)

/-- ITS FALSE NEIGHBOUR: 'it returns false'. Refute it at one input. -/
def feedRoundWrong : ChangeSpec := { name := "feedRound", fn := fun _ => fun
  | [d1, d2] => { results := [.lit (.bool false)], args := [d1, d2] }
  | _ => none }
def FeedRoundWrongFalsely : Prop := feedRoundRow.holds Tryz.pinned (OpenSpec.ofChange feedRoundWrong)

/- THE SECOND FORM. 'bulk': how many values and letters a reading holds, each counted each time it is reached (what is shared counts as often as it is met; a slice's spare places count too). A statement '..UptoSaid' is the law's where the arguments, and the package variables that the reading takes, are together of bulk at most 1048576: NARROWER than '..Said'. Prove '..Said' where nothing that the law and all that it calls make is longer than what came in: it says more and counts as full. Else prove '..UptoSaid'. A law counts once. -/
mutual
def uptoBulk {H : Type} : DataW H → Nat
  | .lit (.string bytes) => bytes.length + 1
  | .lit _ => 1
  | .nil => 1
  | .ptr d => uptoBulk d + 1
  | .slice elems spare => uptoBulkAll elems + uptoBulkAll spare + 1
  | .agg parts => uptoBulkAll parts + 1
  | .iface _ d => uptoBulk d + 1
  | .map entries => uptoBulkEntries entries + 1
  | .held _ => 1
def uptoBulkAll {H : Type} : List (DataW H) → Nat
  | [] => 0
  | d :: r => uptoBulk d + uptoBulkAll r
def uptoBulkEntries {H : Type} : List (Lit × DataW H) → Nat
  | [] => 0
  | x :: r => uptoBulkEntry x + uptoBulkEntries r
def uptoBulkEntry {H : Type} : Lit × DataW H → Nat
  | (.string bytes, d) => bytes.length + uptoBulk d + 1
  | (_, d) => uptoBulk d + 1
 end
def uptoSmall : (H : Type) → List (DataW H) → Bool := fun _ ds => decide (uptoBulkAll ds ≤ 1048576)
def OpenSpec.upto (s : _root_.Go.ChangeSpec) : _root_.Go.OpenSpec := { _root_.Go.OpenSpec.ofChange s with cond := some uptoSmall }

/-- 'muleteerlaw8.GotVector', WHERE WHAT IT READS IS OF BULK AT MOST 1048576: true; the input reads as it did. -/
def gotVectorUptoRow : OpenClaim := { program := "ytkpginmdnlhfbaagreatdoor", sum := "aa17b07003d74c8e316b4843b9aff8fa1a08d7536a9d6bc8a262015653ed8224", func := "muleteer/muleteerlaw8.GotVector", spec := "gotVector", inPlace := ["slices.overlaps[int]", "slices.overlaps[muleteer/rset.pair]", "slices.overlaps[uint64]", "math/bits.Add64", "internal/bytealg.IndexByteString", "internal/bytealg.IndexString"], unfollowed := true, recurses := true, named := ["math/bits.divideError", "math/bits.overflowError", "muleteer/ival.weights", "unicode/utf8.first", "unicode/utf8.acceptRanges", "internal/strconv.uint64pow10", "math/bits.deBruijn32tab", "math/bits.deBruijn64tab", "internal/bytealg.MaxLen"], apart := false, laid := [("math/bits.deBruijn32tab", laid_math_bits_deBruijn32tab), ("math/bits.deBruijn64tab", laid_math_bits_deBruijn64tab), ("internal/strconv.uint64pow10", laid_internal_strconv_uint64pow10), ("muleteer/ival.weights", laid_muleteer_ival_weights), ("unicode/utf8.acceptRanges", laid_unicode_utf8_acceptRanges), ("unicode/utf8.first", laid_unicode_utf8_first)], narrowed := true }
def GotVectorUptoSaid : Prop := gotVectorUptoRow.holds Tryz.pinned (OpenSpec.upto gotVectorSpec)

/-- 'muleteerlaw8.SentThree', WHERE WHAT IT READS IS OF BULK AT MOST 1048576: true; the input reads as it did. -/
def sentThreeUptoRow : OpenClaim := { program := "ytkpginmdnlhfbaagreatdoor", sum := "aa17b07003d74c8e316b4843b9aff8fa1a08d7536a9d6bc8a262015653ed8224", func := "muleteer/muleteerlaw8.SentThree", spec := "sentThree", inPlace := ["slices.overlaps[int]", "slices.overlaps[muleteer/rset.pair]", "slices.overlaps[uint64]", "math/bits.Add64", "internal/bytealg.IndexByteString", "internal/bytealg.IndexString"], unfollowed := true, recurses := true, named := ["math/bits.divideError", "math/bits.overflowError", "muleteer/ival.weights", "unicode/utf8.first", "unicode/utf8.acceptRanges", "internal/strconv.uint64pow10", "math/bits.deBruijn32tab", "math/bits.deBruijn64tab", "internal/bytealg.MaxLen"], apart := false, laid := [("math/bits.deBruijn32tab", laid_math_bits_deBruijn32tab), ("math/bits.deBruijn64tab", laid_math_bits_deBruijn64tab), ("internal/strconv.uint64pow10", laid_internal_strconv_uint64pow10), ("muleteer/ival.weights", laid_muleteer_ival_weights), ("unicode/utf8.acceptRanges", laid_unicode_utf8_acceptRanges), ("unicode/utf8.first", laid_unicode_utf8_first)], narrowed := true }
def SentThreeUptoSaid : Prop := sentThreeUptoRow.holds Tryz.pinned (OpenSpec.upto sentThreeSpec)

/-- 'muleteerlaw8.SentUnknown', WHERE WHAT IT READS IS OF BULK AT MOST 1048576: true; the input reads as it did. -/
def sentUnknownUptoRow : OpenClaim := { program := "ytkpginmdnlhfbaagreatdoor", sum := "aa17b07003d74c8e316b4843b9aff8fa1a08d7536a9d6bc8a262015653ed8224", func := "muleteer/muleteerlaw8.SentUnknown", spec := "sentUnknown", inPlace := ["slices.overlaps[int]", "slices.overlaps[muleteer/rset.pair]", "slices.overlaps[uint64]", "math/bits.Add64", "internal/bytealg.IndexByteString", "internal/bytealg.IndexString"], unfollowed := true, recurses := true, named := ["math/bits.divideError", "math/bits.overflowError", "muleteer/ival.weights", "unicode/utf8.first", "unicode/utf8.acceptRanges", "internal/strconv.uint64pow10", "math/bits.deBruijn32tab", "math/bits.deBruijn64tab", "internal/bytealg.MaxLen"], apart := false, laid := [("math/bits.deBruijn32tab", laid_math_bits_deBruijn32tab), ("math/bits.deBruijn64tab", laid_math_bits_deBruijn64tab), ("internal/strconv.uint64pow10", laid_internal_strconv_uint64pow10), ("muleteer/ival.weights", laid_muleteer_ival_weights), ("unicode/utf8.acceptRanges", laid_unicode_utf8_acceptRanges), ("unicode/utf8.first", laid_unicode_utf8_first)], narrowed := true }
def SentUnknownUptoSaid : Prop := sentUnknownUptoRow.holds Tryz.pinned (OpenSpec.upto sentUnknownSpec)

/-- 'muleteerlaw8.FeedNone', WHERE WHAT IT READS IS OF BULK AT MOST 1048576: true; the input reads as it did. -/
def feedNoneUptoRow : OpenClaim := { program := "ytkpginmdnlhfbaagreatdoor", sum := "aa17b07003d74c8e316b4843b9aff8fa1a08d7536a9d6bc8a262015653ed8224", func := "muleteer/muleteerlaw8.FeedNone", spec := "feedNone", inPlace := ["slices.overlaps[int]", "slices.overlaps[muleteer/rset.pair]", "slices.overlaps[uint64]", "math/bits.Add64", "internal/bytealg.IndexByteString", "internal/bytealg.IndexString"], unfollowed := true, recurses := true, named := ["math/bits.divideError", "math/bits.overflowError", "muleteer/ival.weights", "unicode/utf8.first", "unicode/utf8.acceptRanges", "internal/strconv.uint64pow10", "math/bits.deBruijn32tab", "math/bits.deBruijn64tab", "internal/bytealg.MaxLen"], apart := false, laid := [("math/bits.deBruijn32tab", laid_math_bits_deBruijn32tab), ("math/bits.deBruijn64tab", laid_math_bits_deBruijn64tab), ("internal/strconv.uint64pow10", laid_internal_strconv_uint64pow10), ("muleteer/ival.weights", laid_muleteer_ival_weights), ("unicode/utf8.acceptRanges", laid_unicode_utf8_acceptRanges), ("unicode/utf8.first", laid_unicode_utf8_first)], narrowed := true }
def FeedNoneUptoSaid : Prop := feedNoneUptoRow.holds Tryz.pinned (OpenSpec.upto feedNoneSpec)

/-- 'muleteerlaw8.FeedHoles', WHERE WHAT IT READS IS OF BULK AT MOST 1048576: true; the input reads as it did. -/
def feedHolesUptoRow : OpenClaim := { program := "ytkpginmdnlhfbaagreatdoor", sum := "aa17b07003d74c8e316b4843b9aff8fa1a08d7536a9d6bc8a262015653ed8224", func := "muleteer/muleteerlaw8.FeedHoles", spec := "feedHoles", inPlace := ["slices.overlaps[int]", "slices.overlaps[muleteer/rset.pair]", "slices.overlaps[uint64]", "math/bits.Add64", "internal/bytealg.IndexByteString", "internal/bytealg.IndexString"], unfollowed := true, recurses := true, named := ["math/bits.divideError", "math/bits.overflowError", "muleteer/ival.weights", "unicode/utf8.first", "unicode/utf8.acceptRanges", "internal/strconv.uint64pow10", "math/bits.deBruijn32tab", "math/bits.deBruijn64tab", "internal/bytealg.MaxLen"], apart := false, laid := [("math/bits.deBruijn32tab", laid_math_bits_deBruijn32tab), ("math/bits.deBruijn64tab", laid_math_bits_deBruijn64tab), ("internal/strconv.uint64pow10", laid_internal_strconv_uint64pow10), ("muleteer/ival.weights", laid_muleteer_ival_weights), ("unicode/utf8.acceptRanges", laid_unicode_utf8_acceptRanges), ("unicode/utf8.first", laid_unicode_utf8_first)], narrowed := true }
def FeedHolesUptoSaid : Prop := feedHolesUptoRow.holds Tryz.pinned (OpenSpec.upto feedHolesSpec)

/-- 'muleteerlaw8.GotForget', WHERE WHAT IT READS IS OF BULK AT MOST 1048576: true; the input reads as it did. -/
def gotForgetUptoRow : OpenClaim := { program := "ytkpginmdnlhfbaagreatdoor", sum := "aa17b07003d74c8e316b4843b9aff8fa1a08d7536a9d6bc8a262015653ed8224", func := "muleteer/muleteerlaw8.GotForget", spec := "gotForget", inPlace := ["slices.overlaps[int]", "slices.overlaps[muleteer/rset.pair]", "slices.overlaps[uint64]", "math/bits.Add64", "internal/bytealg.IndexByteString", "internal/bytealg.IndexString"], unfollowed := true, recurses := true, named := ["math/bits.divideError", "math/bits.overflowError", "muleteer/ival.weights", "unicode/utf8.first", "unicode/utf8.acceptRanges", "internal/strconv.uint64pow10", "math/bits.deBruijn32tab", "math/bits.deBruijn64tab", "internal/bytealg.MaxLen"], apart := false, laid := [("math/bits.deBruijn32tab", laid_math_bits_deBruijn32tab), ("math/bits.deBruijn64tab", laid_math_bits_deBruijn64tab), ("internal/strconv.uint64pow10", laid_internal_strconv_uint64pow10), ("muleteer/ival.weights", laid_muleteer_ival_weights), ("unicode/utf8.acceptRanges", laid_unicode_utf8_acceptRanges), ("unicode/utf8.first", laid_unicode_utf8_first)], narrowed := true }
def GotForgetUptoSaid : Prop := gotForgetUptoRow.holds Tryz.pinned (OpenSpec.upto gotForgetSpec)

/-- 'muleteerlaw8.SentFull', WHERE WHAT IT READS IS OF BULK AT MOST 1048576: true; the input reads as it did. -/
def sentFullUptoRow : OpenClaim := { program := "ytkpginmdnlhfbaagreatdoor", sum := "aa17b07003d74c8e316b4843b9aff8fa1a08d7536a9d6bc8a262015653ed8224", func := "muleteer/muleteerlaw8.SentFull", spec := "sentFull", inPlace := ["slices.overlaps[int]", "slices.overlaps[muleteer/rset.pair]", "slices.overlaps[uint64]", "math/bits.Add64", "internal/bytealg.IndexByteString", "internal/bytealg.IndexString"], unfollowed := true, recurses := true, named := ["math/bits.divideError", "math/bits.overflowError", "muleteer/ival.weights", "unicode/utf8.first", "unicode/utf8.acceptRanges", "internal/strconv.uint64pow10", "math/bits.deBruijn32tab", "math/bits.deBruijn64tab", "internal/bytealg.MaxLen"], apart := false, laid := [("math/bits.deBruijn32tab", laid_math_bits_deBruijn32tab), ("math/bits.deBruijn64tab", laid_math_bits_deBruijn64tab), ("internal/strconv.uint64pow10", laid_internal_strconv_uint64pow10), ("muleteer/ival.weights", laid_muleteer_ival_weights), ("unicode/utf8.acceptRanges", laid_unicode_utf8_acceptRanges), ("unicode/utf8.first", laid_unicode_utf8_first)], narrowed := true }
def SentFullUptoSaid : Prop := sentFullUptoRow.holds Tryz.pinned (OpenSpec.upto sentFullSpec)

/-- 'muleteerlaw8.SentRtt', WHERE WHAT IT READS IS OF BULK AT MOST 1048576: true; the input reads as it did. -/
def sentRttUptoRow : OpenClaim := { program := "ytkpginmdnlhfbaagreatdoor", sum := "aa17b07003d74c8e316b4843b9aff8fa1a08d7536a9d6bc8a262015653ed8224", func := "muleteer/muleteerlaw8.SentRtt", spec := "sentRtt", inPlace := ["slices.overlaps[int]", "slices.overlaps[muleteer/rset.pair]", "slices.overlaps[uint64]", "math/bits.Add64", "internal/bytealg.IndexByteString", "internal/bytealg.IndexString"], unfollowed := true, recurses := true, named := ["math/bits.divideError", "math/bits.overflowError", "muleteer/ival.weights", "unicode/utf8.first", "unicode/utf8.acceptRanges", "internal/strconv.uint64pow10", "math/bits.deBruijn32tab", "math/bits.deBruijn64tab", "internal/bytealg.MaxLen"], apart := false, laid := [("math/bits.deBruijn32tab", laid_math_bits_deBruijn32tab), ("math/bits.deBruijn64tab", laid_math_bits_deBruijn64tab), ("internal/strconv.uint64pow10", laid_internal_strconv_uint64pow10), ("muleteer/ival.weights", laid_muleteer_ival_weights), ("unicode/utf8.acceptRanges", laid_unicode_utf8_acceptRanges), ("unicode/utf8.first", laid_unicode_utf8_first)], narrowed := true }
def SentRttUptoSaid : Prop := sentRttUptoRow.holds Tryz.pinned (OpenSpec.upto sentRttSpec)

/-- 'muleteerlaw8.FeedRate', WHERE WHAT IT READS IS OF BULK AT MOST 1048576: true; the input reads as it did. -/
def feedRateUptoRow : OpenClaim := { program := "ytkpginmdnlhfbaagreatdoor", sum := "aa17b07003d74c8e316b4843b9aff8fa1a08d7536a9d6bc8a262015653ed8224", func := "muleteer/muleteerlaw8.FeedRate", spec := "feedRate", inPlace := ["slices.overlaps[int]", "slices.overlaps[muleteer/rset.pair]", "slices.overlaps[uint64]", "math/bits.Add64", "internal/bytealg.IndexByteString", "internal/bytealg.IndexString"], unfollowed := true, recurses := true, named := ["math/bits.divideError", "math/bits.overflowError", "muleteer/ival.weights", "unicode/utf8.first", "unicode/utf8.acceptRanges", "internal/strconv.uint64pow10", "math/bits.deBruijn32tab", "math/bits.deBruijn64tab", "internal/bytealg.MaxLen"], apart := false, laid := [("math/bits.deBruijn32tab", laid_math_bits_deBruijn32tab), ("math/bits.deBruijn64tab", laid_math_bits_deBruijn64tab), ("internal/strconv.uint64pow10", laid_internal_strconv_uint64pow10), ("muleteer/ival.weights", laid_muleteer_ival_weights), ("unicode/utf8.acceptRanges", laid_unicode_utf8_acceptRanges), ("unicode/utf8.first", laid_unicode_utf8_first)], narrowed := true }
def FeedRateUptoSaid : Prop := feedRateUptoRow.holds Tryz.pinned (OpenSpec.upto feedRateSpec)

/-- 'muleteerlaw8.FeedRound', WHERE WHAT IT READS IS OF BULK AT MOST 1048576: true; the input reads as it did. -/
def feedRoundUptoRow : OpenClaim := { program := "ytkpginmdnlhfbaagreatdoor", sum := "aa17b07003d74c8e316b4843b9aff8fa1a08d7536a9d6bc8a262015653ed8224", func := "muleteer/muleteerlaw8.FeedRound", spec := "feedRound", inPlace := ["slices.overlaps[int]", "slices.overlaps[muleteer/rset.pair]", "slices.overlaps[uint64]", "math/bits.Add64", "internal/bytealg.IndexByteString", "internal/bytealg.IndexString"], unfollowed := true, recurses := true, named := ["math/bits.divideError", "math/bits.overflowError", "muleteer/ival.weights", "unicode/utf8.first", "unicode/utf8.acceptRanges", "internal/strconv.uint64pow10", "math/bits.deBruijn32tab", "math/bits.deBruijn64tab", "internal/bytealg.MaxLen"], apart := false, laid := [("math/bits.deBruijn32tab", laid_math_bits_deBruijn32tab), ("math/bits.deBruijn64tab", laid_math_bits_deBruijn64tab), ("internal/strconv.uint64pow10", laid_internal_strconv_uint64pow10), ("muleteer/ival.weights", laid_muleteer_ival_weights), ("unicode/utf8.acceptRanges", laid_unicode_utf8_acceptRanges), ("unicode/utf8.first", laid_unicode_utf8_first)], narrowed := true }
def FeedRoundUptoSaid : Prop := feedRoundUptoRow.holds Tryz.pinned (OpenSpec.upto feedRoundSpec)

end Rows
end Go.Proofs.YtkpginmdnlhfbaaGreatDoor
