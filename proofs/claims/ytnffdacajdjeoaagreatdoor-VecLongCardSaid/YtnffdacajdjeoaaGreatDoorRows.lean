/-
  NARROWER THAN 'FOR EVERY INPUT', by the rows' own cells (each row's printed sentence says how): VecAll: laid · VecMerge: laid · IvalAll: laid · RttAll: laid · EqnAll: laid · EqnOrder: laid · RatesNone: laid · VecRuns: laid · IvalSteady: laid · IvalOrder: laid · RttSteady: laid · EqnTrue: laid · VecLong: laid · IvalOne: laid · RttBack: laid.
  DERIVED. THE GIVEN ROWS OF THIS SEAT. 15 by the template 'for every input the law returns true; each argument reads behind the call as it read before'; 0 by the template 'total and deterministic' (their statements: YtnffdacajdjeoaaGreatDoorTotals.lean).
  GIVEN WITH THE SEED: the statements are not yours to turn. If you find one false, say at which input.
  Laid BY PROGRAM, IN A SANDBOX (cutbox-rows.mjs): the forced cells as the released guide's own fill.sh prints them over the translation 4756046456c59602… (all of the seat's roots in one cut). By AI agents, Wed Nov 11 2026. No macro, syntax, notation, axiom, sorry.
-/
import Derived.Test.YtnffdacajdjeoaaGreatDoorChecked
import GoSem.PinnedTables
import GoSem.Claim
import GoSem.ClaimJoined
import GoSem.ClaimMapViews
import Derived.JoinedTies
import Derived.KernelRfl
namespace Go.Proofs.YtnffdacajdjeoaaGreatDoor
/- THE CELL 'sum', in the pinned program and in every row, IS THE sha256 OF THE DUMP (.gsa) THAT YtnffdacajdjeoaaGreatDoorProg.lean LOADS. Nothing in Lean hashes anything: it is a label: what it is worth is what the hold of that sum in a sandbox is worth. -/
noncomputable def Tryz.pinned : Pinned := { name := "ytnffdacajdjeoaagreatdoor", sum := "4756046456c59602dcd019877a3fc89940c567c117e439562bf53d213ed24089", checked := Tryz.checked }
namespace Rows
def none {H : Type} : Left H := { results := [], args := [] }

/- WHAT THE LISTED PACKAGE-LEVEL VARIABLES READ AS WHEN THE CALL BEGINS. Each datum BY PROGRAM (the guide's laid-datum.mjs) off the statement by which the dump's own 'gosem.cut.vars' lays the variable. In a bare row this is a premise. The card (YtnffdacajdjeoaaGreatDoorCards.lean) ties it to the program's text. -/
def laid_math_bits_deBruijn32tab {H : Type} : DataW H := .agg [.lit (.int .u8 0), .lit (.int .u8 1), .lit (.int .u8 28), .lit (.int .u8 2), .lit (.int .u8 29), .lit (.int .u8 14), .lit (.int .u8 24), .lit (.int .u8 3), .lit (.int .u8 30), .lit (.int .u8 22), .lit (.int .u8 20), .lit (.int .u8 15), .lit (.int .u8 25), .lit (.int .u8 17), .lit (.int .u8 4), .lit (.int .u8 8), .lit (.int .u8 31), .lit (.int .u8 27), .lit (.int .u8 13), .lit (.int .u8 23), .lit (.int .u8 21), .lit (.int .u8 19), .lit (.int .u8 16), .lit (.int .u8 7), .lit (.int .u8 26), .lit (.int .u8 12), .lit (.int .u8 18), .lit (.int .u8 6), .lit (.int .u8 11), .lit (.int .u8 5), .lit (.int .u8 10), .lit (.int .u8 9)]
def laid_math_bits_deBruijn64tab {H : Type} : DataW H := .agg [.lit (.int .u8 0), .lit (.int .u8 1), .lit (.int .u8 56), .lit (.int .u8 2), .lit (.int .u8 57), .lit (.int .u8 49), .lit (.int .u8 28), .lit (.int .u8 3), .lit (.int .u8 61), .lit (.int .u8 58), .lit (.int .u8 42), .lit (.int .u8 50), .lit (.int .u8 38), .lit (.int .u8 29), .lit (.int .u8 17), .lit (.int .u8 4), .lit (.int .u8 62), .lit (.int .u8 47), .lit (.int .u8 59), .lit (.int .u8 36), .lit (.int .u8 45), .lit (.int .u8 43), .lit (.int .u8 51), .lit (.int .u8 22), .lit (.int .u8 53), .lit (.int .u8 39), .lit (.int .u8 33), .lit (.int .u8 30), .lit (.int .u8 24), .lit (.int .u8 18), .lit (.int .u8 12), .lit (.int .u8 5), .lit (.int .u8 63), .lit (.int .u8 55), .lit (.int .u8 48), .lit (.int .u8 27), .lit (.int .u8 60), .lit (.int .u8 41), .lit (.int .u8 37), .lit (.int .u8 16), .lit (.int .u8 46), .lit (.int .u8 35), .lit (.int .u8 44), .lit (.int .u8 21), .lit (.int .u8 52), .lit (.int .u8 32), .lit (.int .u8 23), .lit (.int .u8 11), .lit (.int .u8 54), .lit (.int .u8 26), .lit (.int .u8 40), .lit (.int .u8 15), .lit (.int .u8 34), .lit (.int .u8 20), .lit (.int .u8 31), .lit (.int .u8 10), .lit (.int .u8 25), .lit (.int .u8 14), .lit (.int .u8 19), .lit (.int .u8 9), .lit (.int .u8 13), .lit (.int .u8 8), .lit (.int .u8 7), .lit (.int .u8 6)]
def laid_internal_strconv_uint64pow10 {H : Type} : DataW H := .agg [.lit (.int .u64 1), .lit (.int .u64 10), .lit (.int .u64 100), .lit (.int .u64 1000), .lit (.int .u64 10000), .lit (.int .u64 100000), .lit (.int .u64 1000000), .lit (.int .u64 10000000), .lit (.int .u64 100000000), .lit (.int .u64 1000000000), .lit (.int .u64 10000000000), .lit (.int .u64 100000000000), .lit (.int .u64 1000000000000), .lit (.int .u64 10000000000000), .lit (.int .u64 100000000000000), .lit (.int .u64 1000000000000000), .lit (.int .u64 10000000000000000), .lit (.int .u64 100000000000000000), .lit (.int .u64 1000000000000000000), .lit (.int .u64 10000000000000000000)]
def laid_muleteer_ival_weights {H : Type} : DataW H := .agg [.lit (.int .u64 5), .lit (.int .u64 5), .lit (.int .u64 5), .lit (.int .u64 5), .lit (.int .u64 4), .lit (.int .u64 3), .lit (.int .u64 2), .lit (.int .u64 1)]
def laid_unicode_utf8_acceptRanges {H : Type} : DataW H := .agg [.agg [.lit (.int .u8 128), .lit (.int .u8 191)], .agg [.lit (.int .u8 160), .lit (.int .u8 191)], .agg [.lit (.int .u8 128), .lit (.int .u8 159)], .agg [.lit (.int .u8 144), .lit (.int .u8 191)], .agg [.lit (.int .u8 128), .lit (.int .u8 143)], .agg [.lit (.int .u8 0), .lit (.int .u8 0)], .agg [.lit (.int .u8 0), .lit (.int .u8 0)], .agg [.lit (.int .u8 0), .lit (.int .u8 0)], .agg [.lit (.int .u8 0), .lit (.int .u8 0)], .agg [.lit (.int .u8 0), .lit (.int .u8 0)], .agg [.lit (.int .u8 0), .lit (.int .u8 0)], .agg [.lit (.int .u8 0), .lit (.int .u8 0)], .agg [.lit (.int .u8 0), .lit (.int .u8 0)], .agg [.lit (.int .u8 0), .lit (.int .u8 0)], .agg [.lit (.int .u8 0), .lit (.int .u8 0)], .agg [.lit (.int .u8 0), .lit (.int .u8 0)]]
/-- One of Go's own tables, pinned by name: the form's constant. -/
def laid_unicode_utf8_first : DataW Unit := Go.Pinned.utf8First

/-- 'muleteerlaw8.VecAll': WHATEVER THE INPUT: true; the input reads as it did. -/
def vecAllSpec : ChangeSpec := { name := "vecAll", fn := fun _ => fun
  | [d1, d2, d3] => { results := [.lit (.bool true)], args := [d1, d2, d3] }
  | _ => none }
def vecAllRow : OpenClaim := { program := "ytnffdacajdjeoaagreatdoor", sum := "4756046456c59602dcd019877a3fc89940c567c117e439562bf53d213ed24089", func := "muleteer/muleteerlaw8.VecAll", spec := "vecAll", inPlace := ["slices.overlaps[int]", "slices.overlaps[muleteer/rset.pair]", "slices.overlaps[uint64]", "math/bits.Add64", "internal/bytealg.IndexByteString", "internal/bytealg.IndexString"], unfollowed := true, recurses := true, named := ["math/bits.divideError", "math/bits.overflowError", "muleteer/ival.weights", "unicode/utf8.first", "unicode/utf8.acceptRanges", "internal/strconv.uint64pow10", "math/bits.deBruijn32tab", "math/bits.deBruijn64tab", "internal/bytealg.MaxLen"], apart := false, laid := [("math/bits.deBruijn32tab", laid_math_bits_deBruijn32tab), ("math/bits.deBruijn64tab", laid_math_bits_deBruijn64tab), ("internal/strconv.uint64pow10", laid_internal_strconv_uint64pow10), ("muleteer/ival.weights", laid_muleteer_ival_weights), ("unicode/utf8.acceptRanges", laid_unicode_utf8_acceptRanges), ("unicode/utf8.first", laid_unicode_utf8_first)] }
def VecAllSaid : Prop := vecAllRow.holds Tryz.pinned (OpenSpec.ofChange vecAllSpec)

/-- ITS FALSE NEIGHBOUR: 'it returns false'. Refute it at one input. -/
def vecAllWrong : ChangeSpec := { name := "vecAll", fn := fun _ => fun
  | [d1, d2, d3] => { results := [.lit (.bool false)], args := [d1, d2, d3] }
  | _ => none }
def VecAllWrongFalsely : Prop := vecAllRow.holds Tryz.pinned (OpenSpec.ofChange vecAllWrong)

/-- 'muleteerlaw8.VecMerge': WHATEVER THE INPUT: true; the input reads as it did. -/
def vecMergeSpec : ChangeSpec := { name := "vecMerge", fn := fun _ => fun
  | [d1, d2] => { results := [.lit (.bool true)], args := [d1, d2] }
  | _ => none }
def vecMergeRow : OpenClaim := { program := "ytnffdacajdjeoaagreatdoor", sum := "4756046456c59602dcd019877a3fc89940c567c117e439562bf53d213ed24089", func := "muleteer/muleteerlaw8.VecMerge", spec := "vecMerge", inPlace := ["slices.overlaps[int]", "slices.overlaps[muleteer/rset.pair]", "slices.overlaps[uint64]", "math/bits.Add64", "internal/bytealg.IndexByteString", "internal/bytealg.IndexString"], unfollowed := true, recurses := true, named := ["math/bits.divideError", "math/bits.overflowError", "muleteer/ival.weights", "unicode/utf8.first", "unicode/utf8.acceptRanges", "internal/strconv.uint64pow10", "math/bits.deBruijn32tab", "math/bits.deBruijn64tab", "internal/bytealg.MaxLen"], apart := false, laid := [("math/bits.deBruijn32tab", laid_math_bits_deBruijn32tab), ("math/bits.deBruijn64tab", laid_math_bits_deBruijn64tab), ("internal/strconv.uint64pow10", laid_internal_strconv_uint64pow10), ("muleteer/ival.weights", laid_muleteer_ival_weights), ("unicode/utf8.acceptRanges", laid_unicode_utf8_acceptRanges), ("unicode/utf8.first", laid_unicode_utf8_first)] }
def VecMergeSaid : Prop := vecMergeRow.holds Tryz.pinned (OpenSpec.ofChange vecMergeSpec)

/-- ITS FALSE NEIGHBOUR: 'it returns false'. Refute it at one input. -/
def vecMergeWrong : ChangeSpec := { name := "vecMerge", fn := fun _ => fun
  | [d1, d2] => { results := [.lit (.bool false)], args := [d1, d2] }
  | _ => none }
def VecMergeWrongFalsely : Prop := vecMergeRow.holds Tryz.pinned (OpenSpec.ofChange vecMergeWrong)

/-- 'muleteerlaw8.IvalAll': WHATEVER THE INPUT: true; the input reads as it did. -/
def ivalAllSpec : ChangeSpec := { name := "ivalAll", fn := fun _ => fun
  | [d1, d2, d3] => { results := [.lit (.bool true)], args := [d1, d2, d3] }
  | _ => none }
def ivalAllRow : OpenClaim := { program := "ytnffdacajdjeoaagreatdoor", sum := "4756046456c59602dcd019877a3fc89940c567c117e439562bf53d213ed24089", func := "muleteer/muleteerlaw8.IvalAll", spec := "ivalAll", inPlace := ["slices.overlaps[int]", "slices.overlaps[muleteer/rset.pair]", "slices.overlaps[uint64]", "math/bits.Add64", "internal/bytealg.IndexByteString", "internal/bytealg.IndexString"], unfollowed := true, recurses := true, named := ["math/bits.divideError", "math/bits.overflowError", "muleteer/ival.weights", "unicode/utf8.first", "unicode/utf8.acceptRanges", "internal/strconv.uint64pow10", "math/bits.deBruijn32tab", "math/bits.deBruijn64tab", "internal/bytealg.MaxLen"], apart := false, laid := [("math/bits.deBruijn32tab", laid_math_bits_deBruijn32tab), ("math/bits.deBruijn64tab", laid_math_bits_deBruijn64tab), ("internal/strconv.uint64pow10", laid_internal_strconv_uint64pow10), ("muleteer/ival.weights", laid_muleteer_ival_weights), ("unicode/utf8.acceptRanges", laid_unicode_utf8_acceptRanges), ("unicode/utf8.first", laid_unicode_utf8_first)] }
def IvalAllSaid : Prop := ivalAllRow.holds Tryz.pinned (OpenSpec.ofChange ivalAllSpec)

/-- ITS FALSE NEIGHBOUR: 'it returns false'. Refute it at one input. -/
def ivalAllWrong : ChangeSpec := { name := "ivalAll", fn := fun _ => fun
  | [d1, d2, d3] => { results := [.lit (.bool false)], args := [d1, d2, d3] }
  | _ => none }
def IvalAllWrongFalsely : Prop := ivalAllRow.holds Tryz.pinned (OpenSpec.ofChange ivalAllWrong)

/-- 'muleteerlaw8.RttAll': WHATEVER THE INPUT: true; the input reads as it did. -/
def rttAllSpec : ChangeSpec := { name := "rttAll", fn := fun _ => fun
  | [d] => { results := [.lit (.bool true)], args := [d] }
  | _ => none }
def rttAllRow : OpenClaim := { program := "ytnffdacajdjeoaagreatdoor", sum := "4756046456c59602dcd019877a3fc89940c567c117e439562bf53d213ed24089", func := "muleteer/muleteerlaw8.RttAll", spec := "rttAll", inPlace := ["slices.overlaps[int]", "slices.overlaps[muleteer/rset.pair]", "slices.overlaps[uint64]", "math/bits.Add64", "internal/bytealg.IndexByteString", "internal/bytealg.IndexString"], unfollowed := true, recurses := true, named := ["math/bits.divideError", "math/bits.overflowError", "muleteer/ival.weights", "unicode/utf8.first", "unicode/utf8.acceptRanges", "internal/strconv.uint64pow10", "math/bits.deBruijn32tab", "math/bits.deBruijn64tab", "internal/bytealg.MaxLen"], apart := false, laid := [("math/bits.deBruijn32tab", laid_math_bits_deBruijn32tab), ("math/bits.deBruijn64tab", laid_math_bits_deBruijn64tab), ("internal/strconv.uint64pow10", laid_internal_strconv_uint64pow10), ("muleteer/ival.weights", laid_muleteer_ival_weights), ("unicode/utf8.acceptRanges", laid_unicode_utf8_acceptRanges), ("unicode/utf8.first", laid_unicode_utf8_first)] }
def RttAllSaid : Prop := rttAllRow.holds Tryz.pinned (OpenSpec.ofChange rttAllSpec)

/-- ITS FALSE NEIGHBOUR: 'it returns false'. Refute it at one input. -/
def rttAllWrong : ChangeSpec := { name := "rttAll", fn := fun _ => fun
  | [d] => { results := [.lit (.bool false)], args := [d] }
  | _ => none }
def RttAllWrongFalsely : Prop := rttAllRow.holds Tryz.pinned (OpenSpec.ofChange rttAllWrong)

/-- 'muleteerlaw8.EqnAll': WHATEVER THE INPUT: true; the input reads as it did. -/
def eqnAllSpec : ChangeSpec := { name := "eqnAll", fn := fun _ => fun
  | [d1, d2, d3] => { results := [.lit (.bool true)], args := [d1, d2, d3] }
  | _ => none }
def eqnAllRow : OpenClaim := { program := "ytnffdacajdjeoaagreatdoor", sum := "4756046456c59602dcd019877a3fc89940c567c117e439562bf53d213ed24089", func := "muleteer/muleteerlaw8.EqnAll", spec := "eqnAll", inPlace := ["slices.overlaps[int]", "slices.overlaps[muleteer/rset.pair]", "slices.overlaps[uint64]", "math/bits.Add64", "internal/bytealg.IndexByteString", "internal/bytealg.IndexString"], unfollowed := true, recurses := true, named := ["math/bits.divideError", "math/bits.overflowError", "muleteer/ival.weights", "unicode/utf8.first", "unicode/utf8.acceptRanges", "internal/strconv.uint64pow10", "math/bits.deBruijn32tab", "math/bits.deBruijn64tab", "internal/bytealg.MaxLen"], apart := false, laid := [("math/bits.deBruijn32tab", laid_math_bits_deBruijn32tab), ("math/bits.deBruijn64tab", laid_math_bits_deBruijn64tab), ("internal/strconv.uint64pow10", laid_internal_strconv_uint64pow10), ("muleteer/ival.weights", laid_muleteer_ival_weights), ("unicode/utf8.acceptRanges", laid_unicode_utf8_acceptRanges), ("unicode/utf8.first", laid_unicode_utf8_first)] }
def EqnAllSaid : Prop := eqnAllRow.holds Tryz.pinned (OpenSpec.ofChange eqnAllSpec)

/-- ITS FALSE NEIGHBOUR: 'it returns false'. Refute it at one input. -/
def eqnAllWrong : ChangeSpec := { name := "eqnAll", fn := fun _ => fun
  | [d1, d2, d3] => { results := [.lit (.bool false)], args := [d1, d2, d3] }
  | _ => none }
def EqnAllWrongFalsely : Prop := eqnAllRow.holds Tryz.pinned (OpenSpec.ofChange eqnAllWrong)

/-- 'muleteerlaw8.EqnOrder': WHATEVER THE INPUT: true; the input reads as it did. -/
def eqnOrderSpec : ChangeSpec := { name := "eqnOrder", fn := fun _ => fun
  | [d1, d2, d3, d4, d5, d6] => { results := [.lit (.bool true)], args := [d1, d2, d3, d4, d5, d6] }
  | _ => none }
def eqnOrderRow : OpenClaim := { program := "ytnffdacajdjeoaagreatdoor", sum := "4756046456c59602dcd019877a3fc89940c567c117e439562bf53d213ed24089", func := "muleteer/muleteerlaw8.EqnOrder", spec := "eqnOrder", inPlace := ["slices.overlaps[int]", "slices.overlaps[muleteer/rset.pair]", "slices.overlaps[uint64]", "math/bits.Add64", "internal/bytealg.IndexByteString", "internal/bytealg.IndexString"], unfollowed := true, recurses := true, named := ["math/bits.divideError", "math/bits.overflowError", "muleteer/ival.weights", "unicode/utf8.first", "unicode/utf8.acceptRanges", "internal/strconv.uint64pow10", "math/bits.deBruijn32tab", "math/bits.deBruijn64tab", "internal/bytealg.MaxLen"], apart := false, laid := [("math/bits.deBruijn32tab", laid_math_bits_deBruijn32tab), ("math/bits.deBruijn64tab", laid_math_bits_deBruijn64tab), ("internal/strconv.uint64pow10", laid_internal_strconv_uint64pow10), ("muleteer/ival.weights", laid_muleteer_ival_weights), ("unicode/utf8.acceptRanges", laid_unicode_utf8_acceptRanges), ("unicode/utf8.first", laid_unicode_utf8_first)] }
def EqnOrderSaid : Prop := eqnOrderRow.holds Tryz.pinned (OpenSpec.ofChange eqnOrderSpec)

/-- ITS FALSE NEIGHBOUR: 'it returns false'. Refute it at one input. -/
def eqnOrderWrong : ChangeSpec := { name := "eqnOrder", fn := fun _ => fun
  | [d1, d2, d3, d4, d5, d6] => { results := [.lit (.bool false)], args := [d1, d2, d3, d4, d5, d6] }
  | _ => none }
def EqnOrderWrongFalsely : Prop := eqnOrderRow.holds Tryz.pinned (OpenSpec.ofChange eqnOrderWrong)

/-- 'muleteerlaw8.RatesNone': WHATEVER THE INPUT: true; the input reads as it did. -/
def ratesNoneSpec : ChangeSpec := { name := "ratesNone", fn := fun _ => fun
  | [] => { results := [.lit (.bool true)], args := [] }
  | _ => none }
def ratesNoneRow : OpenClaim := { program := "ytnffdacajdjeoaagreatdoor", sum := "4756046456c59602dcd019877a3fc89940c567c117e439562bf53d213ed24089", func := "muleteer/muleteerlaw8.RatesNone", spec := "ratesNone", inPlace := ["math/bits.Add64", "slices.overlaps[int]", "slices.overlaps[muleteer/rset.pair]", "slices.overlaps[uint64]", "internal/bytealg.IndexByteString", "internal/bytealg.IndexString"], unfollowed := true, recurses := true, named := ["math/bits.divideError", "math/bits.overflowError", "muleteer/ival.weights", "unicode/utf8.first", "unicode/utf8.acceptRanges", "internal/strconv.uint64pow10", "math/bits.deBruijn32tab", "math/bits.deBruijn64tab", "internal/bytealg.MaxLen"], apart := false, laid := [("math/bits.deBruijn32tab", laid_math_bits_deBruijn32tab), ("math/bits.deBruijn64tab", laid_math_bits_deBruijn64tab), ("internal/strconv.uint64pow10", laid_internal_strconv_uint64pow10), ("muleteer/ival.weights", laid_muleteer_ival_weights), ("unicode/utf8.acceptRanges", laid_unicode_utf8_acceptRanges), ("unicode/utf8.first", laid_unicode_utf8_first)] }
def RatesNoneSaid : Prop := ratesNoneRow.holds Tryz.pinned (OpenSpec.ofChange ratesNoneSpec)

/-- ITS FALSE NEIGHBOUR: 'it returns false'. Refute it at one input. -/
def ratesNoneWrong : ChangeSpec := { name := "ratesNone", fn := fun _ => fun
  | [] => { results := [.lit (.bool false)], args := [] }
  | _ => none }
def RatesNoneWrongFalsely : Prop := ratesNoneRow.holds Tryz.pinned (OpenSpec.ofChange ratesNoneWrong)

/-- 'muleteerlaw8.VecRuns': WHATEVER THE INPUT: true; the input reads as it did. -/
def vecRunsSpec : ChangeSpec := { name := "vecRuns", fn := fun _ => fun
  | [d1, d2, d3] => { results := [.lit (.bool true)], args := [d1, d2, d3] }
  | _ => none }
def vecRunsRow : OpenClaim := { program := "ytnffdacajdjeoaagreatdoor", sum := "4756046456c59602dcd019877a3fc89940c567c117e439562bf53d213ed24089", func := "muleteer/muleteerlaw8.VecRuns", spec := "vecRuns", inPlace := ["slices.overlaps[int]", "slices.overlaps[muleteer/rset.pair]", "slices.overlaps[uint64]", "math/bits.Add64", "internal/bytealg.IndexByteString", "internal/bytealg.IndexString"], unfollowed := true, recurses := true, named := ["math/bits.divideError", "math/bits.overflowError", "muleteer/ival.weights", "unicode/utf8.first", "unicode/utf8.acceptRanges", "internal/strconv.uint64pow10", "math/bits.deBruijn32tab", "math/bits.deBruijn64tab", "internal/bytealg.MaxLen"], apart := false, laid := [("math/bits.deBruijn32tab", laid_math_bits_deBruijn32tab), ("math/bits.deBruijn64tab", laid_math_bits_deBruijn64tab), ("internal/strconv.uint64pow10", laid_internal_strconv_uint64pow10), ("muleteer/ival.weights", laid_muleteer_ival_weights), ("unicode/utf8.acceptRanges", laid_unicode_utf8_acceptRanges), ("unicode/utf8.first", laid_unicode_utf8_first)] }
def VecRunsSaid : Prop := vecRunsRow.holds Tryz.pinned (OpenSpec.ofChange vecRunsSpec)

/-- ITS FALSE NEIGHBOUR: 'it returns false'. Refute it at one input. -/
def vecRunsWrong : ChangeSpec := { name := "vecRuns", fn := fun _ => fun
  | [d1, d2, d3] => { results := [.lit (.bool false)], args := [d1, d2, d3] }
  | _ => none }
def VecRunsWrongFalsely : Prop := vecRunsRow.holds Tryz.pinned (OpenSpec.ofChange vecRunsWrong)

/-- 'muleteerlaw8.IvalSteady': WHATEVER THE INPUT: true; the input reads as it did. -/
def ivalSteadySpec : ChangeSpec := { name := "ivalSteady", fn := fun _ => fun
  | [d1, d2] => { results := [.lit (.bool true)], args := [d1, d2] }
  | _ => none }
def ivalSteadyRow : OpenClaim := { program := "ytnffdacajdjeoaagreatdoor", sum := "4756046456c59602dcd019877a3fc89940c567c117e439562bf53d213ed24089", func := "muleteer/muleteerlaw8.IvalSteady", spec := "ivalSteady", inPlace := ["slices.overlaps[int]", "slices.overlaps[muleteer/rset.pair]", "slices.overlaps[uint64]", "math/bits.Add64", "internal/bytealg.IndexByteString", "internal/bytealg.IndexString"], unfollowed := true, recurses := true, named := ["math/bits.divideError", "math/bits.overflowError", "muleteer/ival.weights", "unicode/utf8.first", "unicode/utf8.acceptRanges", "internal/strconv.uint64pow10", "math/bits.deBruijn32tab", "math/bits.deBruijn64tab", "internal/bytealg.MaxLen"], apart := false, laid := [("math/bits.deBruijn32tab", laid_math_bits_deBruijn32tab), ("math/bits.deBruijn64tab", laid_math_bits_deBruijn64tab), ("internal/strconv.uint64pow10", laid_internal_strconv_uint64pow10), ("muleteer/ival.weights", laid_muleteer_ival_weights), ("unicode/utf8.acceptRanges", laid_unicode_utf8_acceptRanges), ("unicode/utf8.first", laid_unicode_utf8_first)] }
def IvalSteadySaid : Prop := ivalSteadyRow.holds Tryz.pinned (OpenSpec.ofChange ivalSteadySpec)

/-- ITS FALSE NEIGHBOUR: 'it returns false'. Refute it at one input. -/
def ivalSteadyWrong : ChangeSpec := { name := "ivalSteady", fn := fun _ => fun
  | [d1, d2] => { results := [.lit (.bool false)], args := [d1, d2] }
  | _ => none }
def IvalSteadyWrongFalsely : Prop := ivalSteadyRow.holds Tryz.pinned (OpenSpec.ofChange ivalSteadyWrong)

/-- 'muleteerlaw8.IvalOrder': WHATEVER THE INPUT: true; the input reads as it did. -/
def ivalOrderSpec : ChangeSpec := { name := "ivalOrder", fn := fun _ => fun
  | [d1, d2, d3, d4] => { results := [.lit (.bool true)], args := [d1, d2, d3, d4] }
  | _ => none }
def ivalOrderRow : OpenClaim := { program := "ytnffdacajdjeoaagreatdoor", sum := "4756046456c59602dcd019877a3fc89940c567c117e439562bf53d213ed24089", func := "muleteer/muleteerlaw8.IvalOrder", spec := "ivalOrder", inPlace := ["slices.overlaps[int]", "slices.overlaps[muleteer/rset.pair]", "slices.overlaps[uint64]", "math/bits.Add64", "internal/bytealg.IndexByteString", "internal/bytealg.IndexString"], unfollowed := true, recurses := true, named := ["math/bits.divideError", "math/bits.overflowError", "muleteer/ival.weights", "unicode/utf8.first", "unicode/utf8.acceptRanges", "internal/strconv.uint64pow10", "math/bits.deBruijn32tab", "math/bits.deBruijn64tab", "internal/bytealg.MaxLen"], apart := false, laid := [("math/bits.deBruijn32tab", laid_math_bits_deBruijn32tab), ("math/bits.deBruijn64tab", laid_math_bits_deBruijn64tab), ("internal/strconv.uint64pow10", laid_internal_strconv_uint64pow10), ("muleteer/ival.weights", laid_muleteer_ival_weights), ("unicode/utf8.acceptRanges", laid_unicode_utf8_acceptRanges), ("unicode/utf8.first", laid_unicode_utf8_first)] }
def IvalOrderSaid : Prop := ivalOrderRow.holds Tryz.pinned (OpenSpec.ofChange ivalOrderSpec)

/-- ITS FALSE NEIGHBOUR: 'it returns false'. Refute it at one input. -/
def ivalOrderWrong : ChangeSpec := { name := "ivalOrder", fn := fun _ => fun
  | [d1, d2, d3, d4] => { results := [.lit (.bool false)], args := [d1, d2, d3, d4] }
  | _ => none }
def IvalOrderWrongFalsely : Prop := ivalOrderRow.holds Tryz.pinned (OpenSpec.ofChange ivalOrderWrong)

/-- 'muleteerlaw8.RttSteady': WHATEVER THE INPUT: true; the input reads as it did. -/
def rttSteadySpec : ChangeSpec := { name := "rttSteady", fn := fun _ => fun
  | [d1, d2] => { results := [.lit (.bool true)], args := [d1, d2] }
  | _ => none }
def rttSteadyRow : OpenClaim := { program := "ytnffdacajdjeoaagreatdoor", sum := "4756046456c59602dcd019877a3fc89940c567c117e439562bf53d213ed24089", func := "muleteer/muleteerlaw8.RttSteady", spec := "rttSteady", inPlace := ["slices.overlaps[int]", "slices.overlaps[muleteer/rset.pair]", "slices.overlaps[uint64]", "math/bits.Add64", "internal/bytealg.IndexByteString", "internal/bytealg.IndexString"], unfollowed := true, recurses := true, named := ["math/bits.divideError", "math/bits.overflowError", "muleteer/ival.weights", "unicode/utf8.first", "unicode/utf8.acceptRanges", "internal/strconv.uint64pow10", "math/bits.deBruijn32tab", "math/bits.deBruijn64tab", "internal/bytealg.MaxLen"], apart := false, laid := [("math/bits.deBruijn32tab", laid_math_bits_deBruijn32tab), ("math/bits.deBruijn64tab", laid_math_bits_deBruijn64tab), ("internal/strconv.uint64pow10", laid_internal_strconv_uint64pow10), ("muleteer/ival.weights", laid_muleteer_ival_weights), ("unicode/utf8.acceptRanges", laid_unicode_utf8_acceptRanges), ("unicode/utf8.first", laid_unicode_utf8_first)] }
def RttSteadySaid : Prop := rttSteadyRow.holds Tryz.pinned (OpenSpec.ofChange rttSteadySpec)

/-- ITS FALSE NEIGHBOUR: 'it returns false'. Refute it at one input. -/
def rttSteadyWrong : ChangeSpec := { name := "rttSteady", fn := fun _ => fun
  | [d1, d2] => { results := [.lit (.bool false)], args := [d1, d2] }
  | _ => none }
def RttSteadyWrongFalsely : Prop := rttSteadyRow.holds Tryz.pinned (OpenSpec.ofChange rttSteadyWrong)

/-- 'muleteerlaw8.EqnTrue': WHATEVER THE INPUT: true; the input reads as it did. -/
def eqnTrueSpec : ChangeSpec := { name := "eqnTrue", fn := fun _ => fun
  | [d1, d2, d3] => { results := [.lit (.bool true)], args := [d1, d2, d3] }
  | _ => none }
def eqnTrueRow : OpenClaim := { program := "ytnffdacajdjeoaagreatdoor", sum := "4756046456c59602dcd019877a3fc89940c567c117e439562bf53d213ed24089", func := "muleteer/muleteerlaw8.EqnTrue", spec := "eqnTrue", inPlace := ["slices.overlaps[int]", "slices.overlaps[muleteer/rset.pair]", "slices.overlaps[uint64]", "math/bits.Add64", "internal/bytealg.IndexByteString", "internal/bytealg.IndexString"], unfollowed := true, recurses := true, named := ["math/bits.divideError", "math/bits.overflowError", "muleteer/ival.weights", "unicode/utf8.first", "unicode/utf8.acceptRanges", "internal/strconv.uint64pow10", "math/bits.deBruijn32tab", "math/bits.deBruijn64tab", "internal/bytealg.MaxLen"], apart := false, laid := [("math/bits.deBruijn32tab", laid_math_bits_deBruijn32tab), ("math/bits.deBruijn64tab", laid_math_bits_deBruijn64tab), ("internal/strconv.uint64pow10", laid_internal_strconv_uint64pow10), ("muleteer/ival.weights", laid_muleteer_ival_weights), ("unicode/utf8.acceptRanges", laid_unicode_utf8_acceptRanges), ("unicode/utf8.first", laid_unicode_utf8_first)] }
def EqnTrueSaid : Prop := eqnTrueRow.holds Tryz.pinned (OpenSpec.ofChange eqnTrueSpec)

/-- ITS FALSE NEIGHBOUR: 'it returns false'. Refute it at one input. -/
def eqnTrueWrong : ChangeSpec := { name := "eqnTrue", fn := fun _ => fun
  | [d1, d2, d3] => { results := [.lit (.bool false)], args := [d1, d2, d3] }
  | _ => none }
def EqnTrueWrongFalsely : Prop := eqnTrueRow.holds Tryz.pinned (OpenSpec.ofChange eqnTrueWrong)

/-- 'muleteerlaw8.VecLong': WHATEVER THE INPUT: true; the input reads as it did. -/
def vecLongSpec : ChangeSpec := { name := "vecLong", fn := fun _ => fun
  | [d1, d2] => { results := [.lit (.bool true)], args := [d1, d2] }
  | _ => none }
def vecLongRow : OpenClaim := { program := "ytnffdacajdjeoaagreatdoor", sum := "4756046456c59602dcd019877a3fc89940c567c117e439562bf53d213ed24089", func := "muleteer/muleteerlaw8.VecLong", spec := "vecLong", inPlace := ["slices.overlaps[int]", "slices.overlaps[muleteer/rset.pair]", "slices.overlaps[uint64]", "math/bits.Add64", "internal/bytealg.IndexByteString", "internal/bytealg.IndexString"], unfollowed := true, recurses := true, named := ["math/bits.divideError", "math/bits.overflowError", "muleteer/ival.weights", "unicode/utf8.first", "unicode/utf8.acceptRanges", "internal/strconv.uint64pow10", "math/bits.deBruijn32tab", "math/bits.deBruijn64tab", "internal/bytealg.MaxLen"], apart := false, laid := [("math/bits.deBruijn32tab", laid_math_bits_deBruijn32tab), ("math/bits.deBruijn64tab", laid_math_bits_deBruijn64tab), ("internal/strconv.uint64pow10", laid_internal_strconv_uint64pow10), ("muleteer/ival.weights", laid_muleteer_ival_weights), ("unicode/utf8.acceptRanges", laid_unicode_utf8_acceptRanges), ("unicode/utf8.first", laid_unicode_utf8_first)] }
def VecLongSaid : Prop := vecLongRow.holds Tryz.pinned (OpenSpec.ofChange vecLongSpec)

/-- ITS FALSE NEIGHBOUR: 'it returns false'. Refute it at one input. -/
def vecLongWrong : ChangeSpec := { name := "vecLong", fn := fun _ => fun
  | [d1, d2] => { results := [.lit (.bool false)], args := [d1, d2] }
  | _ => none }
def VecLongWrongFalsely : Prop := vecLongRow.holds Tryz.pinned (OpenSpec.ofChange vecLongWrong)

/-- 'muleteerlaw8.IvalOne': WHATEVER THE INPUT: true; the input reads as it did. -/
def ivalOneSpec : ChangeSpec := { name := "ivalOne", fn := fun _ => fun
  | [d1, d2] => { results := [.lit (.bool true)], args := [d1, d2] }
  | _ => none }
def ivalOneRow : OpenClaim := { program := "ytnffdacajdjeoaagreatdoor", sum := "4756046456c59602dcd019877a3fc89940c567c117e439562bf53d213ed24089", func := "muleteer/muleteerlaw8.IvalOne", spec := "ivalOne", inPlace := ["slices.overlaps[int]", "slices.overlaps[muleteer/rset.pair]", "slices.overlaps[uint64]", "math/bits.Add64", "internal/bytealg.IndexByteString", "internal/bytealg.IndexString"], unfollowed := true, recurses := true, named := ["math/bits.divideError", "math/bits.overflowError", "muleteer/ival.weights", "unicode/utf8.first", "unicode/utf8.acceptRanges", "internal/strconv.uint64pow10", "math/bits.deBruijn32tab", "math/bits.deBruijn64tab", "internal/bytealg.MaxLen"], apart := false, laid := [("math/bits.deBruijn32tab", laid_math_bits_deBruijn32tab), ("math/bits.deBruijn64tab", laid_math_bits_deBruijn64tab), ("internal/strconv.uint64pow10", laid_internal_strconv_uint64pow10), ("muleteer/ival.weights", laid_muleteer_ival_weights), ("unicode/utf8.acceptRanges", laid_unicode_utf8_acceptRanges), ("unicode/utf8.first", laid_unicode_utf8_first)] }
def IvalOneSaid : Prop := ivalOneRow.holds Tryz.pinned (OpenSpec.ofChange ivalOneSpec)

/-- ITS FALSE NEIGHBOUR: 'it returns false'. Refute it at one input. -/
def ivalOneWrong : ChangeSpec := { name := "ivalOne", fn := fun _ => fun
  | [d1, d2] => { results := [.lit (.bool false)], args := [d1, d2] }
  | _ => none }
def IvalOneWrongFalsely : Prop := ivalOneRow.holds Tryz.pinned (OpenSpec.ofChange ivalOneWrong)

/-- 'muleteerlaw8.RttBack': WHATEVER THE INPUT: true; the input reads as it did. -/
def rttBackSpec : ChangeSpec := { name := "rttBack", fn := fun _ => fun
  | [d1, d2] => { results := [.lit (.bool true)], args := [d1, d2] }
  | _ => none }
def rttBackRow : OpenClaim := { program := "ytnffdacajdjeoaagreatdoor", sum := "4756046456c59602dcd019877a3fc89940c567c117e439562bf53d213ed24089", func := "muleteer/muleteerlaw8.RttBack", spec := "rttBack", inPlace := ["slices.overlaps[int]", "slices.overlaps[muleteer/rset.pair]", "slices.overlaps[uint64]", "math/bits.Add64", "internal/bytealg.IndexByteString", "internal/bytealg.IndexString"], unfollowed := true, recurses := true, named := ["math/bits.divideError", "math/bits.overflowError", "muleteer/ival.weights", "unicode/utf8.first", "unicode/utf8.acceptRanges", "internal/strconv.uint64pow10", "math/bits.deBruijn32tab", "math/bits.deBruijn64tab", "internal/bytealg.MaxLen"], apart := false, laid := [("math/bits.deBruijn32tab", laid_math_bits_deBruijn32tab), ("math/bits.deBruijn64tab", laid_math_bits_deBruijn64tab), ("internal/strconv.uint64pow10", laid_internal_strconv_uint64pow10), ("muleteer/ival.weights", laid_muleteer_ival_weights), ("unicode/utf8.acceptRanges", laid_unicode_utf8_acceptRanges), ("unicode/utf8.first", laid_unicode_utf8_first)] }
def RttBackSaid : Prop := rttBackRow.holds Tryz.pinned (OpenSpec.ofChange rttBackSpec)

/-- ITS FALSE NEIGHBOUR: 'it returns false'. Refute it at one input. -/
def rttBackWrong : ChangeSpec := { name := "rttBack", fn := fun _ => fun
  | [d1, d2] => { results := [.lit (.bool false)], args := [d1, d2] }
  | _ => none }
def RttBackWrongFalsely : Prop := rttBackRow.holds Tryz.pinned (OpenSpec.ofChange rttBackWrong)

/- THE SECOND FORM. 'bulk': how many values and letters a reading holds, each counted each time it is reached (what is shared counts as often as it is met; a slice's spare places count too). A statement '..UptoSaid' is the law's where the arguments, and the package variables that the reading takes, are together of bulk at most 1048576: NARROWER than '..Said'. Prove '..Said' where nothing that the law and all that it calls make is longer than what came in: it says more and counts as full. Else prove '..UptoSaid'. A law counts once. -/
mutual
def uptoBulk {H : Type} : DataW H → Nat
  | .lit (.string bytes) => bytes.length + 1
  | .lit _ => 1
  | .nil => 1
  | .ptr d => uptoBulk d + 1
  | .slice elems spare => uptoBulkAll elems + uptoBulkAll spare + 1
  | .agg parts => uptoBulkAll parts + 1
  | .iface _ d => uptoBulk d + 1
  | .map entries => uptoBulkEntries entries + 1
  | .held _ => 1
def uptoBulkAll {H : Type} : List (DataW H) → Nat
  | [] => 0
  | d :: r => uptoBulk d + uptoBulkAll r
def uptoBulkEntries {H : Type} : List (Lit × DataW H) → Nat
  | [] => 0
  | x :: r => uptoBulkEntry x + uptoBulkEntries r
def uptoBulkEntry {H : Type} : Lit × DataW H → Nat
  | (.string bytes, d) => bytes.length + uptoBulk d + 1
  | (_, d) => uptoBulk d + 1
 end
def uptoSmall : (H : Type) → List (DataW H) → Bool := fun _ ds => decide (uptoBulkAll ds ≤ 1048576)
def OpenSpec.upto (s : _root_.Go.ChangeSpec) : _root_.Go.OpenSpec := { _root_.Go.OpenSpec.ofChange s with cond := some uptoSmall }

/-- 'muleteerlaw8.VecAll', WHERE WHAT IT READS IS OF BULK AT MOST 1048576: true; the input reads as it did. -/
def vecAllUptoRow : OpenClaim := { program := "ytnffdacajdjeoaagreatdoor", sum := "4756046456c59602dcd019877a3fc89940c567c117e439562bf53d213ed24089", func := "muleteer/muleteerlaw8.VecAll", spec := "vecAll", inPlace := ["slices.overlaps[int]", "slices.overlaps[muleteer/rset.pair]", "slices.overlaps[uint64]", "math/bits.Add64", "internal/bytealg.IndexByteString", "internal/bytealg.IndexString"], unfollowed := true, recurses := true, named := ["math/bits.divideError", "math/bits.overflowError", "muleteer/ival.weights", "unicode/utf8.first", "unicode/utf8.acceptRanges", "internal/strconv.uint64pow10", "math/bits.deBruijn32tab", "math/bits.deBruijn64tab", "internal/bytealg.MaxLen"], apart := false, laid := [("math/bits.deBruijn32tab", laid_math_bits_deBruijn32tab), ("math/bits.deBruijn64tab", laid_math_bits_deBruijn64tab), ("internal/strconv.uint64pow10", laid_internal_strconv_uint64pow10), ("muleteer/ival.weights", laid_muleteer_ival_weights), ("unicode/utf8.acceptRanges", laid_unicode_utf8_acceptRanges), ("unicode/utf8.first", laid_unicode_utf8_first)], narrowed := true }
def VecAllUptoSaid : Prop := vecAllUptoRow.holds Tryz.pinned (OpenSpec.upto vecAllSpec)

/-- 'muleteerlaw8.VecMerge', WHERE WHAT IT READS IS OF BULK AT MOST 1048576: true; the input reads as it did. -/
def vecMergeUptoRow : OpenClaim := { program := "ytnffdacajdjeoaagreatdoor", sum := "4756046456c59602dcd019877a3fc89940c567c117e439562bf53d213ed24089", func := "muleteer/muleteerlaw8.VecMerge", spec := "vecMerge", inPlace := ["slices.overlaps[int]", "slices.overlaps[muleteer/rset.pair]", "slices.overlaps[uint64]", "math/bits.Add64", "internal/bytealg.IndexByteString", "internal/bytealg.IndexString"], unfollowed := true, recurses := true, named := ["math/bits.divideError", "math/bits.overflowError", "muleteer/ival.weights", "unicode/utf8.first", "unicode/utf8.acceptRanges", "internal/strconv.uint64pow10", "math/bits.deBruijn32tab", "math/bits.deBruijn64tab", "internal/bytealg.MaxLen"], apart := false, laid := [("math/bits.deBruijn32tab", laid_math_bits_deBruijn32tab), ("math/bits.deBruijn64tab", laid_math_bits_deBruijn64tab), ("internal/strconv.uint64pow10", laid_internal_strconv_uint64pow10), ("muleteer/ival.weights", laid_muleteer_ival_weights), ("unicode/utf8.acceptRanges", laid_unicode_utf8_acceptRanges), ("unicode/utf8.first", laid_unicode_utf8_first)], narrowed := true }
def VecMergeUptoSaid : Prop := vecMergeUptoRow.holds Tryz.pinned (OpenSpec.upto vecMergeSpec)

/-- 'muleteerlaw8.IvalAll', WHERE WHAT IT READS IS OF BULK AT MOST 1048576: true; the input reads as it did. -/
def ivalAllUptoRow : OpenClaim := { program := "ytnffdacajdjeoaagreatdoor", sum := "4756046456c59602dcd019877a3fc89940c567c117e439562bf53d213ed24089", func := "muleteer/muleteerlaw8.IvalAll", spec := "ivalAll", inPlace := ["slices.overlaps[int]", "slices.overlaps[muleteer/rset.pair]", "slices.overlaps[uint64]", "math/bits.Add64", "internal/bytealg.IndexByteString", "internal/bytealg.IndexString"], unfollowed := true, recurses := true, named := ["math/bits.divideError", "math/bits.overflowError", "muleteer/ival.weights", "unicode/utf8.first", "unicode/utf8.acceptRanges", "internal/strconv.uint64pow10", "math/bits.deBruijn32tab", "math/bits.deBruijn64tab", "internal/bytealg.MaxLen"], apart := false, laid := [("math/bits.deBruijn32tab", laid_math_bits_deBruijn32tab), ("math/bits.deBruijn64tab", laid_math_bits_deBruijn64tab), ("internal/strconv.uint64pow10", laid_internal_strconv_uint64pow10), ("muleteer/ival.weights", laid_muleteer_ival_weights), ("unicode/utf8.acceptRanges", laid_unicode_utf8_acceptRanges), ("unicode/utf8.first", laid_unicode_utf8_first)], narrowed := true }
def IvalAllUptoSaid : Prop := ivalAllUptoRow.holds Tryz.pinned (OpenSpec.upto ivalAllSpec)

/-- 'muleteerlaw8.RttAll', WHERE WHAT IT READS IS OF BULK AT MOST 1048576: true; the input reads as it did. -/
def rttAllUptoRow : OpenClaim := { program := "ytnffdacajdjeoaagreatdoor", sum := "4756046456c59602dcd019877a3fc89940c567c117e439562bf53d213ed24089", func := "muleteer/muleteerlaw8.RttAll", spec := "rttAll", inPlace := ["slices.overlaps[int]", "slices.overlaps[muleteer/rset.pair]", "slices.overlaps[uint64]", "math/bits.Add64", "internal/bytealg.IndexByteString", "internal/bytealg.IndexString"], unfollowed := true, recurses := true, named := ["math/bits.divideError", "math/bits.overflowError", "muleteer/ival.weights", "unicode/utf8.first", "unicode/utf8.acceptRanges", "internal/strconv.uint64pow10", "math/bits.deBruijn32tab", "math/bits.deBruijn64tab", "internal/bytealg.MaxLen"], apart := false, laid := [("math/bits.deBruijn32tab", laid_math_bits_deBruijn32tab), ("math/bits.deBruijn64tab", laid_math_bits_deBruijn64tab), ("internal/strconv.uint64pow10", laid_internal_strconv_uint64pow10), ("muleteer/ival.weights", laid_muleteer_ival_weights), ("unicode/utf8.acceptRanges", laid_unicode_utf8_acceptRanges), ("unicode/utf8.first", laid_unicode_utf8_first)], narrowed := true }
def RttAllUptoSaid : Prop := rttAllUptoRow.holds Tryz.pinned (OpenSpec.upto rttAllSpec)

/-- 'muleteerlaw8.EqnAll', WHERE WHAT IT READS IS OF BULK AT MOST 1048576: true; the input reads as it did. -/
def eqnAllUptoRow : OpenClaim := { program := "ytnffdacajdjeoaagreatdoor", sum := "4756046456c59602dcd019877a3fc89940c567c117e439562bf53d213ed24089", func := "muleteer/muleteerlaw8.EqnAll", spec := "eqnAll", inPlace := ["slices.overlaps[int]", "slices.overlaps[muleteer/rset.pair]", "slices.overlaps[uint64]", "math/bits.Add64", "internal/bytealg.IndexByteString", "internal/bytealg.IndexString"], unfollowed := true, recurses := true, named := ["math/bits.divideError", "math/bits.overflowError", "muleteer/ival.weights", "unicode/utf8.first", "unicode/utf8.acceptRanges", "internal/strconv.uint64pow10", "math/bits.deBruijn32tab", "math/bits.deBruijn64tab", "internal/bytealg.MaxLen"], apart := false, laid := [("math/bits.deBruijn32tab", laid_math_bits_deBruijn32tab), ("math/bits.deBruijn64tab", laid_math_bits_deBruijn64tab), ("internal/strconv.uint64pow10", laid_internal_strconv_uint64pow10), ("muleteer/ival.weights", laid_muleteer_ival_weights), ("unicode/utf8.acceptRanges", laid_unicode_utf8_acceptRanges), ("unicode/utf8.first", laid_unicode_utf8_first)], narrowed := true }
def EqnAllUptoSaid : Prop := eqnAllUptoRow.holds Tryz.pinned (OpenSpec.upto eqnAllSpec)

/-- 'muleteerlaw8.EqnOrder', WHERE WHAT IT READS IS OF BULK AT MOST 1048576: true; the input reads as it did. -/
def eqnOrderUptoRow : OpenClaim := { program := "ytnffdacajdjeoaagreatdoor", sum := "4756046456c59602dcd019877a3fc89940c567c117e439562bf53d213ed24089", func := "muleteer/muleteerlaw8.EqnOrder", spec := "eqnOrder", inPlace := ["slices.overlaps[int]", "slices.overlaps[muleteer/rset.pair]", "slices.overlaps[uint64]", "math/bits.Add64", "internal/bytealg.IndexByteString", "internal/bytealg.IndexString"], unfollowed := true, recurses := true, named := ["math/bits.divideError", "math/bits.overflowError", "muleteer/ival.weights", "unicode/utf8.first", "unicode/utf8.acceptRanges", "internal/strconv.uint64pow10", "math/bits.deBruijn32tab", "math/bits.deBruijn64tab", "internal/bytealg.MaxLen"], apart := false, laid := [("math/bits.deBruijn32tab", laid_math_bits_deBruijn32tab), ("math/bits.deBruijn64tab", laid_math_bits_deBruijn64tab), ("internal/strconv.uint64pow10", laid_internal_strconv_uint64pow10), ("muleteer/ival.weights", laid_muleteer_ival_weights), ("unicode/utf8.acceptRanges", laid_unicode_utf8_acceptRanges), ("unicode/utf8.first", laid_unicode_utf8_first)], narrowed := true }
def EqnOrderUptoSaid : Prop := eqnOrderUptoRow.holds Tryz.pinned (OpenSpec.upto eqnOrderSpec)

/-- 'muleteerlaw8.RatesNone', WHERE WHAT IT READS IS OF BULK AT MOST 1048576: true; the input reads as it did. -/
def ratesNoneUptoRow : OpenClaim := { program := "ytnffdacajdjeoaagreatdoor", sum := "4756046456c59602dcd019877a3fc89940c567c117e439562bf53d213ed24089", func := "muleteer/muleteerlaw8.RatesNone", spec := "ratesNone", inPlace := ["math/bits.Add64", "slices.overlaps[int]", "slices.overlaps[muleteer/rset.pair]", "slices.overlaps[uint64]", "internal/bytealg.IndexByteString", "internal/bytealg.IndexString"], unfollowed := true, recurses := true, named := ["math/bits.divideError", "math/bits.overflowError", "muleteer/ival.weights", "unicode/utf8.first", "unicode/utf8.acceptRanges", "internal/strconv.uint64pow10", "math/bits.deBruijn32tab", "math/bits.deBruijn64tab", "internal/bytealg.MaxLen"], apart := false, laid := [("math/bits.deBruijn32tab", laid_math_bits_deBruijn32tab), ("math/bits.deBruijn64tab", laid_math_bits_deBruijn64tab), ("internal/strconv.uint64pow10", laid_internal_strconv_uint64pow10), ("muleteer/ival.weights", laid_muleteer_ival_weights), ("unicode/utf8.acceptRanges", laid_unicode_utf8_acceptRanges), ("unicode/utf8.first", laid_unicode_utf8_first)], narrowed := true }
def RatesNoneUptoSaid : Prop := ratesNoneUptoRow.holds Tryz.pinned (OpenSpec.upto ratesNoneSpec)

/-- 'muleteerlaw8.VecRuns', WHERE WHAT IT READS IS OF BULK AT MOST 1048576: true; the input reads as it did. -/
def vecRunsUptoRow : OpenClaim := { program := "ytnffdacajdjeoaagreatdoor", sum := "4756046456c59602dcd019877a3fc89940c567c117e439562bf53d213ed24089", func := "muleteer/muleteerlaw8.VecRuns", spec := "vecRuns", inPlace := ["slices.overlaps[int]", "slices.overlaps[muleteer/rset.pair]", "slices.overlaps[uint64]", "math/bits.Add64", "internal/bytealg.IndexByteString", "internal/bytealg.IndexString"], unfollowed := true, recurses := true, named := ["math/bits.divideError", "math/bits.overflowError", "muleteer/ival.weights", "unicode/utf8.first", "unicode/utf8.acceptRanges", "internal/strconv.uint64pow10", "math/bits.deBruijn32tab", "math/bits.deBruijn64tab", "internal/bytealg.MaxLen"], apart := false, laid := [("math/bits.deBruijn32tab", laid_math_bits_deBruijn32tab), ("math/bits.deBruijn64tab", laid_math_bits_deBruijn64tab), ("internal/strconv.uint64pow10", laid_internal_strconv_uint64pow10), ("muleteer/ival.weights", laid_muleteer_ival_weights), ("unicode/utf8.acceptRanges", laid_unicode_utf8_acceptRanges), ("unicode/utf8.first", laid_unicode_utf8_first)], narrowed := true }
def VecRunsUptoSaid : Prop := vecRunsUptoRow.holds Tryz.pinned (OpenSpec.upto vecRunsSpec)

/-- 'muleteerlaw8.IvalSteady', WHERE WHAT IT READS IS OF BULK AT MOST 1048576: true; the input reads as it did. -/
def ivalSteadyUptoRow : OpenClaim := { program := "ytnffdacajdjeoaagreatdoor", sum := "4756046456c59602dcd019877a3fc89940c567c117e439562bf53d213ed24089", func := "muleteer/muleteerlaw8.IvalSteady", spec := "ivalSteady", inPlace := ["slices.overlaps[int]", "slices.overlaps[muleteer/rset.pair]", "slices.overlaps[uint64]", "math/bits.Add64", "internal/bytealg.IndexByteString", "internal/bytealg.IndexString"], unfollowed := true, recurses := true, named := ["math/bits.divideError", "math/bits.overflowError", "muleteer/ival.weights", "unicode/utf8.first", "unicode/utf8.acceptRanges", "internal/strconv.uint64pow10", "math/bits.deBruijn32tab", "math/bits.deBruijn64tab", "internal/bytealg.MaxLen"], apart := false, laid := [("math/bits.deBruijn32tab", laid_math_bits_deBruijn32tab), ("math/bits.deBruijn64tab", laid_math_bits_deBruijn64tab), ("internal/strconv.uint64pow10", laid_internal_strconv_uint64pow10), ("muleteer/ival.weights", laid_muleteer_ival_weights), ("unicode/utf8.acceptRanges", laid_unicode_utf8_acceptRanges), ("unicode/utf8.first", laid_unicode_utf8_first)], narrowed := true }
def IvalSteadyUptoSaid : Prop := ivalSteadyUptoRow.holds Tryz.pinned (OpenSpec.upto ivalSteadySpec)

/-- 'muleteerlaw8.IvalOrder', WHERE WHAT IT READS IS OF BULK AT MOST 1048576: true; the input reads as it did. -/
def ivalOrderUptoRow : OpenClaim := { program := "ytnffdacajdjeoaagreatdoor", sum := "4756046456c59602dcd019877a3fc89940c567c117e439562bf53d213ed24089", func := "muleteer/muleteerlaw8.IvalOrder", spec := "ivalOrder", inPlace := ["slices.overlaps[int]", "slices.overlaps[muleteer/rset.pair]", "slices.overlaps[uint64]", "math/bits.Add64", "internal/bytealg.IndexByteString", "internal/bytealg.IndexString"], unfollowed := true, recurses := true, named := ["math/bits.divideError", "math/bits.overflowError", "muleteer/ival.weights", "unicode/utf8.first", "unicode/utf8.acceptRanges", "internal/strconv.uint64pow10", "math/bits.deBruijn32tab", "math/bits.deBruijn64tab", "internal/bytealg.MaxLen"], apart := false, laid := [("math/bits.deBruijn32tab", laid_math_bits_deBruijn32tab), ("math/bits.deBruijn64tab", laid_math_bits_deBruijn64tab), ("internal/strconv.uint64pow10", laid_internal_strconv_uint64pow10), ("muleteer/ival.weights", laid_muleteer_ival_weights), ("unicode/utf8.acceptRanges", laid_unicode_utf8_acceptRanges), ("unicode/utf8.first", laid_unicode_utf8_first)], narrowed := true }
def IvalOrderUptoSaid : Prop := ivalOrderUptoRow.holds Tryz.pinned (OpenSpec.upto ivalOrderSpec)

/-- 'muleteerlaw8.RttSteady', WHERE WHAT IT READS IS OF BULK AT MOST 1048576: true; the input reads as it did. -/
def rttSteadyUptoRow : OpenClaim := { program := "ytnffdacajdjeoaagreatdoor", sum := "4756046456c59602dcd019877a3fc89940c567c117e439562bf53d213ed24089", func := "muleteer/muleteerlaw8.RttSteady", spec := "rttSteady", inPlace := ["slices.overlaps[int]", "slices.overlaps[muleteer/rset.pair]", "slices.overlaps[uint64]", "math/bits.Add64", "internal/bytealg.IndexByteString", "internal/bytealg.IndexString"], unfollowed := true, recurses := true, named := ["math/bits.divideError", "math/bits.overflowError", "muleteer/ival.weights", "unicode/utf8.first", "unicode/utf8.acceptRanges", "internal/strconv.uint64pow10", "math/bits.deBruijn32tab", "math/bits.deBruijn64tab", "internal/bytealg.MaxLen"], apart := false, laid := [("math/bits.deBruijn32tab", laid_math_bits_deBruijn32tab), ("math/bits.deBruijn64tab", laid_math_bits_deBruijn64tab), ("internal/strconv.uint64pow10", laid_internal_strconv_uint64pow10), ("muleteer/ival.weights", laid_muleteer_ival_weights), ("unicode/utf8.acceptRanges", laid_unicode_utf8_acceptRanges), ("unicode/utf8.first", laid_unicode_utf8_first)], narrowed := true }
def RttSteadyUptoSaid : Prop := rttSteadyUptoRow.holds Tryz.pinned (OpenSpec.upto rttSteadySpec)

/-- 'muleteerlaw8.EqnTrue', WHERE WHAT IT READS IS OF BULK AT MOST 1048576: true; the input reads as it did. -/
def eqnTrueUptoRow : OpenClaim := { program := "ytnffdacajdjeoaagreatdoor", sum := "4756046456c59602dcd019877a3fc89940c567c117e439562bf53d213ed24089", func := "muleteer/muleteerlaw8.EqnTrue", spec := "eqnTrue", inPlace := ["slices.overlaps[int]", "slices.overlaps[muleteer/rset.pair]", "slices.overlaps[uint64]", "math/bits.Add64", "internal/bytealg.IndexByteString", "internal/bytealg.IndexString"], unfollowed := true, recurses := true, named := ["math/bits.divideError", "math/bits.overflowError", "muleteer/ival.weights", "unicode/utf8.first", "unicode/utf8.acceptRanges", "internal/strconv.uint64pow10", "math/bits.deBruijn32tab", "math/bits.deBruijn64tab", "internal/bytealg.MaxLen"], apart := false, laid := [("math/bits.deBruijn32tab", laid_math_bits_deBruijn32tab), ("math/bits.deBruijn64tab", laid_math_bits_deBruijn64tab), ("internal/strconv.uint64pow10", laid_internal_strconv_uint64pow10), ("muleteer/ival.weights", laid_muleteer_ival_weights), ("unicode/utf8.acceptRanges", laid_unicode_utf8_acceptRanges), ("unicode/utf8.first", laid_unicode_utf8_first)], narrowed := true }
def EqnTrueUptoSaid : Prop := eqnTrueUptoRow.holds Tryz.pinned (OpenSpec.upto eqnTrueSpec)

/-- 'muleteerlaw8.VecLong', WHERE WHAT IT READS IS OF BULK AT MOST 1048576: true; the input reads as it did. -/
def vecLongUptoRow : OpenClaim := { program := "ytnffdacajdjeoaagreatdoor", sum := "4756046456c59602dcd019877a3fc89940c567c117e439562bf53d213ed24089", func := "muleteer/muleteerlaw8.VecLong", spec := "vecLong", inPlace := ["slices.overlaps[int]", "slices.overlaps[muleteer/rset.pair]", "slices.overlaps[uint64]", "math/bits.Add64", "internal/bytealg.IndexByteString", "internal/bytealg.IndexString"], unfollowed := true, recurses := true, named := ["math/bits.divideError", "math/bits.overflowError", "muleteer/ival.weights", "unicode/utf8.first", "unicode/utf8.acceptRanges", "internal/strconv.uint64pow10", "math/bits.deBruijn32tab", "math/bits.deBruijn64tab", "internal/bytealg.MaxLen"], apart := false, laid := [("math/bits.deBruijn32tab", laid_math_bits_deBruijn32tab), ("math/bits.deBruijn64tab", laid_math_bits_deBruijn64tab), ("internal/strconv.uint64pow10", laid_internal_strconv_uint64pow10), ("muleteer/ival.weights", laid_muleteer_ival_weights), ("unicode/utf8.acceptRanges", laid_unicode_utf8_acceptRanges), ("unicode/utf8.first", laid_unicode_utf8_first)], narrowed := true }
def VecLongUptoSaid : Prop := vecLongUptoRow.holds Tryz.pinned (OpenSpec.upto vecLongSpec)

/-- 'muleteerlaw8.IvalOne', WHERE WHAT IT READS IS OF BULK AT MOST 1048576: true; the input reads as it did. -/
def ivalOneUptoRow : OpenClaim := { program := "ytnffdacajdjeoaagreatdoor", sum := "4756046456c59602dcd019877a3fc89940c567c117e439562bf53d213ed24089", func := "muleteer/muleteerlaw8.IvalOne", spec := "ivalOne", inPlace := ["slices.overlaps[int]", "slices.overlaps[muleteer/rset.pair]", "slices.overlaps[uint64]", "math/bits.Add64", "internal/bytealg.IndexByteString", "internal/bytealg.IndexString"], unfollowed := true, recurses := true, named := ["math/bits.divideError", "math/bits.overflowError", "muleteer/ival.weights", "unicode/utf8.first", "unicode/utf8.acceptRanges", "internal/strconv.uint64pow10", "math/bits.deBruijn32tab", "math/bits.deBruijn64tab", "internal/bytealg.MaxLen"], apart := false, laid := [("math/bits.deBruijn32tab", laid_math_bits_deBruijn32tab), ("math/bits.deBruijn64tab", laid_math_bits_deBruijn64tab), ("internal/strconv.uint64pow10", laid_internal_strconv_uint64pow10), ("muleteer/ival.weights", laid_muleteer_ival_weights), ("unicode/utf8.acceptRanges", laid_unicode_utf8_acceptRanges), ("unicode/utf8.first", laid_unicode_utf8_first)], narrowed := true }
def IvalOneUptoSaid : Prop := ivalOneUptoRow.holds Tryz.pinned (OpenSpec.upto ivalOneSpec)

/-- 'muleteerlaw8.RttBack', WHERE WHAT IT READS IS OF BULK AT MOST 1048576: true; the input reads as it did. -/
def rttBackUptoRow : OpenClaim := { program := "ytnffdacajdjeoaagreatdoor", sum := "4756046456c59602dcd019877a3fc89940c567c117e439562bf53d213ed24089", func := "muleteer/muleteerlaw8.RttBack", spec := "rttBack", inPlace := ["slices.overlaps[int]", "slices.overlaps[muleteer/rset.pair]", "slices.overlaps[uint64]", "math/bits.Add64", "internal/bytealg.IndexByteString", "internal/bytealg.IndexString"], unfollowed := true, recurses := true, named := ["math/bits.divideError", "math/bits.overflowError", "muleteer/ival.weights", "unicode/utf8.first", "unicode/utf8.acceptRanges", "internal/strconv.uint64pow10", "math/bits.deBruijn32tab", "math/bits.deBruijn64tab", "internal/bytealg.MaxLen"], apart := false, laid := [("math/bits.deBruijn32tab", laid_math_bits_deBruijn32tab), ("math/bits.deBruijn64tab", laid_math_bits_deBruijn64tab), ("internal/strconv.uint64pow10", laid_internal_strconv_uint64pow10), ("muleteer/ival.weights", laid_muleteer_ival_weights), ("unicode/utf8.acceptRanges", laid_unicode_utf8_acceptRanges), ("unicode/utf8.first", laid_unicode_utf8_first)], narrowed := true }
def RttBackUptoSaid : Prop := rttBackUptoRow.holds Tryz.pinned (OpenSpec.upto rttBackSpec)

end Rows
end Go.Proofs.YtnffdacajdjeoaaGreatDoor
