/-
  NARROWER THAN 'FOR EVERY INPUT', by the rows' own cells (each row's printed sentence says how): PaceAll: laid · PaceBound: laid · PaceWhen: laid · PaceFull: laid · PaceFall: laid · FeatChoose: laid · NegoBad: laid · NegoMust: laid · NegoAgain: laid · NegoAsk: laid · QueueAll: laid · NegoTwo: laid.
  DERIVED. THE GIVEN ROWS OF THIS SEAT. 12 by the template 'for every input the law returns true; each argument reads behind the call as it read before'; 0 by the template 'total and deterministic' (their statements: YtfmnpepgmedfpaaGreatDoorTotals.lean).
  GIVEN WITH THE SEED: the statements are not yours to turn. If you find one false, say at which input.
  Laid BY PROGRAM, IN A SANDBOX (cutbox-rows.mjs): the forced cells as the released guide's own fill.sh prints them over the translation 019ddc98a148187f… (all of the seat's roots in one cut). By AI agents, Wed Nov 11 2026. No macro, syntax, notation, axiom, sorry.
-/
import Derived.Test.YtfmnpepgmedfpaaGreatDoorChecked
import GoSem.PinnedTables
import GoSem.Claim
import GoSem.ClaimJoined
import GoSem.ClaimMapViews
import Derived.JoinedTies
import Derived.KernelRfl
namespace Go.Proofs.YtfmnpepgmedfpaaGreatDoor
/- THE CELL 'sum', in the pinned program and in every row, IS THE sha256 OF THE DUMP (.gsa) THAT YtfmnpepgmedfpaaGreatDoorProg.lean LOADS. Nothing in Lean hashes anything: it is a label: what it is worth is what the hold of that sum in a sandbox is worth. -/
noncomputable def Tryz.pinned : Pinned := { name := "ytfmnpepgmedfpaagreatdoor", sum := "019ddc98a148187fb56e824e9785d9c37cf54b9dca771cf9072873553a038304", checked := Tryz.checked }
namespace Rows
def none {H : Type} : Left H := { results := [], args := [] }

/- WHAT THE LISTED PACKAGE-LEVEL VARIABLES READ AS WHEN THE CALL BEGINS. Each datum BY PROGRAM (the guide's laid-datum.mjs) off the statement by which the dump's own 'gosem.cut.vars' lays the variable. In a bare row this is a premise. The card (YtfmnpepgmedfpaaGreatDoorCards.lean) ties it to the program's text. -/
def laid_math_bits_deBruijn32tab {H : Type} : DataW H := .agg [.lit (.int .u8 0), .lit (.int .u8 1), .lit (.int .u8 28), .lit (.int .u8 2), .lit (.int .u8 29), .lit (.int .u8 14), .lit (.int .u8 24), .lit (.int .u8 3), .lit (.int .u8 30), .lit (.int .u8 22), .lit (.int .u8 20), .lit (.int .u8 15), .lit (.int .u8 25), .lit (.int .u8 17), .lit (.int .u8 4), .lit (.int .u8 8), .lit (.int .u8 31), .lit (.int .u8 27), .lit (.int .u8 13), .lit (.int .u8 23), .lit (.int .u8 21), .lit (.int .u8 19), .lit (.int .u8 16), .lit (.int .u8 7), .lit (.int .u8 26), .lit (.int .u8 12), .lit (.int .u8 18), .lit (.int .u8 6), .lit (.int .u8 11), .lit (.int .u8 5), .lit (.int .u8 10), .lit (.int .u8 9)]
def laid_math_bits_deBruijn64tab {H : Type} : DataW H := .agg [.lit (.int .u8 0), .lit (.int .u8 1), .lit (.int .u8 56), .lit (.int .u8 2), .lit (.int .u8 57), .lit (.int .u8 49), .lit (.int .u8 28), .lit (.int .u8 3), .lit (.int .u8 61), .lit (.int .u8 58), .lit (.int .u8 42), .lit (.int .u8 50), .lit (.int .u8 38), .lit (.int .u8 29), .lit (.int .u8 17), .lit (.int .u8 4), .lit (.int .u8 62), .lit (.int .u8 47), .lit (.int .u8 59), .lit (.int .u8 36), .lit (.int .u8 45), .lit (.int .u8 43), .lit (.int .u8 51), .lit (.int .u8 22), .lit (.int .u8 53), .lit (.int .u8 39), .lit (.int .u8 33), .lit (.int .u8 30), .lit (.int .u8 24), .lit (.int .u8 18), .lit (.int .u8 12), .lit (.int .u8 5), .lit (.int .u8 63), .lit (.int .u8 55), .lit (.int .u8 48), .lit (.int .u8 27), .lit (.int .u8 60), .lit (.int .u8 41), .lit (.int .u8 37), .lit (.int .u8 16), .lit (.int .u8 46), .lit (.int .u8 35), .lit (.int .u8 44), .lit (.int .u8 21), .lit (.int .u8 52), .lit (.int .u8 32), .lit (.int .u8 23), .lit (.int .u8 11), .lit (.int .u8 54), .lit (.int .u8 26), .lit (.int .u8 40), .lit (.int .u8 15), .lit (.int .u8 34), .lit (.int .u8 20), .lit (.int .u8 31), .lit (.int .u8 10), .lit (.int .u8 25), .lit (.int .u8 14), .lit (.int .u8 19), .lit (.int .u8 9), .lit (.int .u8 13), .lit (.int .u8 8), .lit (.int .u8 7), .lit (.int .u8 6)]
def laid_internal_strconv_uint64pow10 {H : Type} : DataW H := .agg [.lit (.int .u64 1), .lit (.int .u64 10), .lit (.int .u64 100), .lit (.int .u64 1000), .lit (.int .u64 10000), .lit (.int .u64 100000), .lit (.int .u64 1000000), .lit (.int .u64 10000000), .lit (.int .u64 100000000), .lit (.int .u64 1000000000), .lit (.int .u64 10000000000), .lit (.int .u64 100000000000), .lit (.int .u64 1000000000000), .lit (.int .u64 10000000000000), .lit (.int .u64 100000000000000), .lit (.int .u64 1000000000000000), .lit (.int .u64 10000000000000000), .lit (.int .u64 100000000000000000), .lit (.int .u64 1000000000000000000), .lit (.int .u64 10000000000000000000)]
def laid_muleteer_ival_weights {H : Type} : DataW H := .agg [.lit (.int .u64 5), .lit (.int .u64 5), .lit (.int .u64 5), .lit (.int .u64 5), .lit (.int .u64 4), .lit (.int .u64 3), .lit (.int .u64 2), .lit (.int .u64 1)]
def laid_unicode_utf8_acceptRanges {H : Type} : DataW H := .agg [.agg [.lit (.int .u8 128), .lit (.int .u8 191)], .agg [.lit (.int .u8 160), .lit (.int .u8 191)], .agg [.lit (.int .u8 128), .lit (.int .u8 159)], .agg [.lit (.int .u8 144), .lit (.int .u8 191)], .agg [.lit (.int .u8 128), .lit (.int .u8 143)], .agg [.lit (.int .u8 0), .lit (.int .u8 0)], .agg [.lit (.int .u8 0), .lit (.int .u8 0)], .agg [.lit (.int .u8 0), .lit (.int .u8 0)], .agg [.lit (.int .u8 0), .lit (.int .u8 0)], .agg [.lit (.int .u8 0), .lit (.int .u8 0)], .agg [.lit (.int .u8 0), .lit (.int .u8 0)], .agg [.lit (.int .u8 0), .lit (.int .u8 0)], .agg [.lit (.int .u8 0), .lit (.int .u8 0)], .agg [.lit (.int .u8 0), .lit (.int .u8 0)], .agg [.lit (.int .u8 0), .lit (.int .u8 0)], .agg [.lit (.int .u8 0), .lit (.int .u8 0)]]
/-- One of Go's own tables, pinned by name: the form's constant. -/
def laid_unicode_utf8_first : DataW Unit := Go.Pinned.utf8First

/-- 'muleteerlaw18.PaceAll': WHATEVER THE INPUT: true; the input reads as it did. -/
def paceAllSpec : ChangeSpec := { name := "paceAll", fn := fun _ => fun
  | [d1, d2, d3] => { results := [.lit (.bool true)], args := [d1, d2, d3] }
  | _ => none }
def paceAllRow : OpenClaim := { program := "ytfmnpepgmedfpaagreatdoor", sum := "019ddc98a148187fb56e824e9785d9c37cf54b9dca771cf9072873553a038304", func := "muleteer/muleteerlaw18.PaceAll", spec := "paceAll", inPlace := ["internal/bytealg.IndexByteString", "math/bits.Add64", "slices.overlaps[int]", "slices.overlaps[muleteer/rset.pair]", "slices.overlaps[uint64]", "internal/bytealg.IndexString"], unfollowed := true, recurses := true, named := ["math/bits.divideError", "math/bits.overflowError", "muleteer/ival.weights", "unicode/utf8.first", "unicode/utf8.acceptRanges", "internal/strconv.uint64pow10", "math/bits.deBruijn32tab", "math/bits.deBruijn64tab", "internal/bytealg.MaxLen"], apart := false, laid := [("math/bits.deBruijn32tab", laid_math_bits_deBruijn32tab), ("math/bits.deBruijn64tab", laid_math_bits_deBruijn64tab), ("internal/strconv.uint64pow10", laid_internal_strconv_uint64pow10), ("muleteer/ival.weights", laid_muleteer_ival_weights), ("unicode/utf8.acceptRanges", laid_unicode_utf8_acceptRanges), ("unicode/utf8.first", laid_unicode_utf8_first)] }
def PaceAllSaid : Prop := paceAllRow.holds Tryz.pinned (OpenSpec.ofChange paceAllSpec)

/-- ITS FALSE NEIGHBOUR: 'it returns false'. Refute it at one input. -/
def paceAllWrong : ChangeSpec := { name := "paceAll", fn := fun _ => fun
  | [d1, d2, d3] => { results := [.lit (.bool false)], args := [d1, d2, d3] }
  | _ => none }
def PaceAllWrongFalsely : Prop := paceAllRow.holds Tryz.pinned (OpenSpec.ofChange paceAllWrong)

/-- 'muleteerlaw18.PaceBound': WHATEVER THE INPUT: true; the input reads as it did. -/
def paceBoundSpec : ChangeSpec := { name := "paceBound", fn := fun _ => fun
  | [d1, d2] => { results := [.lit (.bool true)], args := [d1, d2] }
  | _ => none }
def paceBoundRow : OpenClaim := { program := "ytfmnpepgmedfpaagreatdoor", sum := "019ddc98a148187fb56e824e9785d9c37cf54b9dca771cf9072873553a038304", func := "muleteer/muleteerlaw18.PaceBound", spec := "paceBound", inPlace := ["internal/bytealg.IndexByteString", "math/bits.Add64", "slices.overlaps[int]", "slices.overlaps[muleteer/rset.pair]", "slices.overlaps[uint64]", "internal/bytealg.IndexString"], unfollowed := true, recurses := true, named := ["math/bits.divideError", "math/bits.overflowError", "muleteer/ival.weights", "unicode/utf8.first", "unicode/utf8.acceptRanges", "internal/strconv.uint64pow10", "math/bits.deBruijn32tab", "math/bits.deBruijn64tab", "internal/bytealg.MaxLen"], apart := false, laid := [("math/bits.deBruijn32tab", laid_math_bits_deBruijn32tab), ("math/bits.deBruijn64tab", laid_math_bits_deBruijn64tab), ("internal/strconv.uint64pow10", laid_internal_strconv_uint64pow10), ("muleteer/ival.weights", laid_muleteer_ival_weights), ("unicode/utf8.acceptRanges", laid_unicode_utf8_acceptRanges), ("unicode/utf8.first", laid_unicode_utf8_first)] }
def PaceBoundSaid : Prop := paceBoundRow.holds Tryz.pinned (OpenSpec.ofChange paceBoundSpec)

/-- ITS FALSE NEIGHBOUR: 'it returns false'. Refute it at one input. -/
def paceBoundWrong : ChangeSpec := { name := "paceBound", fn := fun _ => fun
  | [d1, d2] => { results := [.lit (.bool false)], args := [d1, d2] }
  | _ => none }
def PaceBoundWrongFalsely : Prop := paceBoundRow.holds Tryz.pinned (OpenSpec.ofChange paceBoundWrong)

/-- 'muleteerlaw18.PaceWhen': WHATEVER THE INPUT: true; the input reads as it did. -/
def paceWhenSpec : ChangeSpec := { name := "paceWhen", fn := fun _ => fun
  | [d1, d2, d3, d4] => { results := [.lit (.bool true)], args := [d1, d2, d3, d4] }
  | _ => none }
def paceWhenRow : OpenClaim := { program := "ytfmnpepgmedfpaagreatdoor", sum := "019ddc98a148187fb56e824e9785d9c37cf54b9dca771cf9072873553a038304", func := "muleteer/muleteerlaw18.PaceWhen", spec := "paceWhen", inPlace := ["internal/bytealg.IndexByteString", "math/bits.Add64", "slices.overlaps[int]", "slices.overlaps[muleteer/rset.pair]", "slices.overlaps[uint64]", "internal/bytealg.IndexString"], unfollowed := true, recurses := true, named := ["math/bits.divideError", "math/bits.overflowError", "muleteer/ival.weights", "unicode/utf8.first", "unicode/utf8.acceptRanges", "internal/strconv.uint64pow10", "math/bits.deBruijn32tab", "math/bits.deBruijn64tab", "internal/bytealg.MaxLen"], apart := false, laid := [("math/bits.deBruijn32tab", laid_math_bits_deBruijn32tab), ("math/bits.deBruijn64tab", laid_math_bits_deBruijn64tab), ("internal/strconv.uint64pow10", laid_internal_strconv_uint64pow10), ("muleteer/ival.weights", laid_muleteer_ival_weights), ("unicode/utf8.acceptRanges", laid_unicode_utf8_acceptRanges), ("unicode/utf8.first", laid_unicode_utf8_first)] }
def PaceWhenSaid : Prop := paceWhenRow.holds Tryz.pinned (OpenSpec.ofChange paceWhenSpec)

/-- ITS FALSE NEIGHBOUR: 'it returns false'. Refute it at one input. -/
def paceWhenWrong : ChangeSpec := { name := "paceWhen", fn := fun _ => fun
  | [d1, d2, d3, d4] => { results := [.lit (.bool false)], args := [d1, d2, d3, d4] }
  | _ => none }
def PaceWhenWrongFalsely : Prop := paceWhenRow.holds Tryz.pinned (OpenSpec.ofChange paceWhenWrong)

/-- 'muleteerlaw18.PaceFull': WHATEVER THE INPUT: true; the input reads as it did. -/
def paceFullSpec : ChangeSpec := { name := "paceFull", fn := fun _ => fun
  | [d1, d2, d3, d4] => { results := [.lit (.bool true)], args := [d1, d2, d3, d4] }
  | _ => none }
def paceFullRow : OpenClaim := { program := "ytfmnpepgmedfpaagreatdoor", sum := "019ddc98a148187fb56e824e9785d9c37cf54b9dca771cf9072873553a038304", func := "muleteer/muleteerlaw18.PaceFull", spec := "paceFull", inPlace := ["internal/bytealg.IndexByteString", "math/bits.Add64", "slices.overlaps[int]", "slices.overlaps[muleteer/rset.pair]", "slices.overlaps[uint64]", "internal/bytealg.IndexString"], unfollowed := true, recurses := true, named := ["math/bits.divideError", "math/bits.overflowError", "muleteer/ival.weights", "unicode/utf8.first", "unicode/utf8.acceptRanges", "internal/strconv.uint64pow10", "math/bits.deBruijn32tab", "math/bits.deBruijn64tab", "internal/bytealg.MaxLen"], apart := false, laid := [("math/bits.deBruijn32tab", laid_math_bits_deBruijn32tab), ("math/bits.deBruijn64tab", laid_math_bits_deBruijn64tab), ("internal/strconv.uint64pow10", laid_internal_strconv_uint64pow10), ("muleteer/ival.weights", laid_muleteer_ival_weights), ("unicode/utf8.acceptRanges", laid_unicode_utf8_acceptRanges), ("unicode/utf8.first", laid_unicode_utf8_first)] }
def PaceFullSaid : Prop := paceFullRow.holds Tryz.pinned (OpenSpec.ofChange paceFullSpec)

/-- ITS FALSE NEIGHBOUR: 'it returns false'. Refute it at one input. -/
def paceFullWrong : ChangeSpec := { name := "paceFull", fn := fun _ => fun
  | [d1, d2, d3, d4] => { results := [.lit (.bool false)], args := [d1, d2, d3, d4] }
  | _ => none }
def PaceFullWrongFalsely : Prop := paceFullRow.holds Tryz.pinned (OpenSpec.ofChange paceFullWrong)

/-- 'muleteerlaw18.PaceFall': WHATEVER THE INPUT: true; the input reads as it did. -/
def paceFallSpec : ChangeSpec := { name := "paceFall", fn := fun _ => fun
  | [d1, d2, d3, d4] => { results := [.lit (.bool true)], args := [d1, d2, d3, d4] }
  | _ => none }
def paceFallRow : OpenClaim := { program := "ytfmnpepgmedfpaagreatdoor", sum := "019ddc98a148187fb56e824e9785d9c37cf54b9dca771cf9072873553a038304", func := "muleteer/muleteerlaw18.PaceFall", spec := "paceFall", inPlace := ["internal/bytealg.IndexByteString", "math/bits.Add64", "slices.overlaps[int]", "slices.overlaps[muleteer/rset.pair]", "slices.overlaps[uint64]", "internal/bytealg.IndexString"], unfollowed := true, recurses := true, named := ["math/bits.divideError", "math/bits.overflowError", "muleteer/ival.weights", "unicode/utf8.first", "unicode/utf8.acceptRanges", "internal/strconv.uint64pow10", "math/bits.deBruijn32tab", "math/bits.deBruijn64tab", "internal/bytealg.MaxLen"], apart := false, laid := [("math/bits.deBruijn32tab", laid_math_bits_deBruijn32tab), ("math/bits.deBruijn64tab", laid_math_bits_deBruijn64tab), ("internal/strconv.uint64pow10", laid_internal_strconv_uint64pow10), ("muleteer/ival.weights", laid_muleteer_ival_weights), ("unicode/utf8.acceptRanges", laid_unicode_utf8_acceptRanges), ("unicode/utf8.first", laid_unicode_utf8_first)] }
def PaceFallSaid : Prop := paceFallRow.holds Tryz.pinned (OpenSpec.ofChange paceFallSpec)

/-- ITS FALSE NEIGHBOUR: 'it returns false'. Refute it at one input. -/
def paceFallWrong : ChangeSpec := { name := "paceFall", fn := fun _ => fun
  | [d1, d2, d3, d4] => { results := [.lit (.bool false)], args := [d1, d2, d3, d4] }
  | _ => none }
def PaceFallWrongFalsely : Prop := paceFallRow.holds Tryz.pinned (OpenSpec.ofChange paceFallWrong)

/-- 'muleteerlaw18.FeatChoose': WHATEVER THE INPUT: true; the input reads as it did. -/
def featChooseSpec : ChangeSpec := { name := "featChoose", fn := fun _ => fun
  | [d1, d2, d3] => { results := [.lit (.bool true)], args := [d1, d2, d3] }
  | _ => none }
def featChooseRow : OpenClaim := { program := "ytfmnpepgmedfpaagreatdoor", sum := "019ddc98a148187fb56e824e9785d9c37cf54b9dca771cf9072873553a038304", func := "muleteer/muleteerlaw18.FeatChoose", spec := "featChoose", inPlace := ["internal/bytealg.IndexByteString", "math/bits.Add64", "slices.overlaps[int]", "slices.overlaps[muleteer/rset.pair]", "slices.overlaps[uint64]", "internal/bytealg.IndexString"], unfollowed := true, recurses := true, named := ["math/bits.divideError", "math/bits.overflowError", "muleteer/ival.weights", "unicode/utf8.first", "unicode/utf8.acceptRanges", "internal/strconv.uint64pow10", "math/bits.deBruijn32tab", "math/bits.deBruijn64tab", "internal/bytealg.MaxLen"], apart := false, laid := [("math/bits.deBruijn32tab", laid_math_bits_deBruijn32tab), ("math/bits.deBruijn64tab", laid_math_bits_deBruijn64tab), ("internal/strconv.uint64pow10", laid_internal_strconv_uint64pow10), ("muleteer/ival.weights", laid_muleteer_ival_weights), ("unicode/utf8.acceptRanges", laid_unicode_utf8_acceptRanges), ("unicode/utf8.first", laid_unicode_utf8_first)] }
def FeatChooseSaid : Prop := featChooseRow.holds Tryz.pinned (OpenSpec.ofChange featChooseSpec)

/-- ITS FALSE NEIGHBOUR: 'it returns false'. Refute it at one input. -/
def featChooseWrong : ChangeSpec := { name := "featChoose", fn := fun _ => fun
  | [d1, d2, d3] => { results := [.lit (.bool false)], args := [d1, d2, d3] }
  | _ => none }
def FeatChooseWrongFalsely : Prop := featChooseRow.holds Tryz.pinned (OpenSpec.ofChange featChooseWrong)

/-- 'muleteerlaw18.NegoBad': WHATEVER THE INPUT: true; the input reads as it did. -/
def negoBadSpec : ChangeSpec := { name := "negoBad", fn := fun _ => fun
  | [d1, d2, d3] => { results := [.lit (.bool true)], args := [d1, d2, d3] }
  | _ => none }
def negoBadRow : OpenClaim := { program := "ytfmnpepgmedfpaagreatdoor", sum := "019ddc98a148187fb56e824e9785d9c37cf54b9dca771cf9072873553a038304", func := "muleteer/muleteerlaw18.NegoBad", spec := "negoBad", inPlace := ["internal/bytealg.IndexByteString", "math/bits.Add64", "slices.overlaps[int]", "slices.overlaps[muleteer/rset.pair]", "slices.overlaps[uint64]", "internal/bytealg.IndexString"], unfollowed := true, recurses := true, named := ["math/bits.divideError", "math/bits.overflowError", "muleteer/ival.weights", "unicode/utf8.first", "unicode/utf8.acceptRanges", "internal/strconv.uint64pow10", "math/bits.deBruijn32tab", "math/bits.deBruijn64tab", "internal/bytealg.MaxLen"], apart := false, laid := [("math/bits.deBruijn32tab", laid_math_bits_deBruijn32tab), ("math/bits.deBruijn64tab", laid_math_bits_deBruijn64tab), ("internal/strconv.uint64pow10", laid_internal_strconv_uint64pow10), ("muleteer/ival.weights", laid_muleteer_ival_weights), ("unicode/utf8.acceptRanges", laid_unicode_utf8_acceptRanges), ("unicode/utf8.first", laid_unicode_utf8_first)] }
def NegoBadSaid : Prop := negoBadRow.holds Tryz.pinned (OpenSpec.ofChange negoBadSpec)

/-- ITS FALSE NEIGHBOUR: 'it returns false'. Refute it at one input. -/
def negoBadWrong : ChangeSpec := { name := "negoBad", fn := fun _ => fun
  | [d1, d2, d3] => { results := [.lit (.bool false)], args := [d1, d2, d3] }
  | _ => none }
def NegoBadWrongFalsely : Prop := negoBadRow.holds Tryz.pinned (OpenSpec.ofChange negoBadWrong)

/-- 'muleteerlaw18.NegoMust': WHATEVER THE INPUT: true; the input reads as it did. -/
def negoMustSpec : ChangeSpec := { name := "negoMust", fn := fun _ => fun
  | [d1, d2, d3] => { results := [.lit (.bool true)], args := [d1, d2, d3] }
  | _ => none }
def negoMustRow : OpenClaim := { program := "ytfmnpepgmedfpaagreatdoor", sum := "019ddc98a148187fb56e824e9785d9c37cf54b9dca771cf9072873553a038304", func := "muleteer/muleteerlaw18.NegoMust", spec := "negoMust", inPlace := ["internal/bytealg.IndexByteString", "math/bits.Add64", "slices.overlaps[int]", "slices.overlaps[muleteer/rset.pair]", "slices.overlaps[uint64]", "internal/bytealg.IndexString"], unfollowed := true, recurses := true, named := ["math/bits.divideError", "math/bits.overflowError", "muleteer/ival.weights", "unicode/utf8.first", "unicode/utf8.acceptRanges", "internal/strconv.uint64pow10", "math/bits.deBruijn32tab", "math/bits.deBruijn64tab", "internal/bytealg.MaxLen"], apart := false, laid := [("math/bits.deBruijn32tab", laid_math_bits_deBruijn32tab), ("math/bits.deBruijn64tab", laid_math_bits_deBruijn64tab), ("internal/strconv.uint64pow10", laid_internal_strconv_uint64pow10), ("muleteer/ival.weights", laid_muleteer_ival_weights), ("unicode/utf8.acceptRanges", laid_unicode_utf8_acceptRanges), ("unicode/utf8.first", laid_unicode_utf8_first)] }
def NegoMustSaid : Prop := negoMustRow.holds Tryz.pinned (OpenSpec.ofChange negoMustSpec)

/-- ITS FALSE NEIGHBOUR: 'it returns false'. Refute it at one input. -/
def negoMustWrong : ChangeSpec := { name := "negoMust", fn := fun _ => fun
  | [d1, d2, d3] => { results := [.lit (.bool false)], args := [d1, d2, d3] }
  | _ => none }
def NegoMustWrongFalsely : Prop := negoMustRow.holds Tryz.pinned (OpenSpec.ofChange negoMustWrong)

/-- 'muleteerlaw18.NegoAgain': WHATEVER THE INPUT: true; the input reads as it did. -/
def negoAgainSpec : ChangeSpec := { name := "negoAgain", fn := fun _ => fun
  | [d1, d2, d3, d4] => { results := [.lit (.bool true)], args := [d1, d2, d3, d4] }
  | _ => none }
def negoAgainRow : OpenClaim := { program := "ytfmnpepgmedfpaagreatdoor", sum := "019ddc98a148187fb56e824e9785d9c37cf54b9dca771cf9072873553a038304", func := "muleteer/muleteerlaw18.NegoAgain", spec := "negoAgain", inPlace := ["internal/bytealg.IndexByteString", "math/bits.Add64", "slices.overlaps[int]", "slices.overlaps[muleteer/rset.pair]", "slices.overlaps[uint64]", "internal/bytealg.IndexString"], unfollowed := true, recurses := true, named := ["math/bits.divideError", "math/bits.overflowError", "muleteer/ival.weights", "unicode/utf8.first", "unicode/utf8.acceptRanges", "internal/strconv.uint64pow10", "math/bits.deBruijn32tab", "math/bits.deBruijn64tab", "internal/bytealg.MaxLen"], apart := false, laid := [("math/bits.deBruijn32tab", laid_math_bits_deBruijn32tab), ("math/bits.deBruijn64tab", laid_math_bits_deBruijn64tab), ("internal/strconv.uint64pow10", laid_internal_strconv_uint64pow10), ("muleteer/ival.weights", laid_muleteer_ival_weights), ("unicode/utf8.acceptRanges", laid_unicode_utf8_acceptRanges), ("unicode/utf8.first", laid_unicode_utf8_first)] }
def NegoAgainSaid : Prop := negoAgainRow.holds Tryz.pinned (OpenSpec.ofChange negoAgainSpec)

/-- ITS FALSE NEIGHBOUR: 'it returns false'. Refute it at one input. -/
def negoAgainWrong : ChangeSpec := { name := "negoAgain", fn := fun _ => fun
  | [d1, d2, d3, d4] => { results := [.lit (.bool false)], args := [d1, d2, d3, d4] }
  | _ => none }
def NegoAgainWrongFalsely : Prop := negoAgainRow.holds Tryz.pinned (OpenSpec.ofChange negoAgainWrong)

/-- 'muleteerlaw18.NegoAsk': WHATEVER THE INPUT: true; the input reads as it did. -/
def negoAskSpec : ChangeSpec := { name := "negoAsk", fn := fun _ => fun
  | [d1, d2] => { results := [.lit (.bool true)], args := [d1, d2] }
  | _ => none }
def negoAskRow : OpenClaim := { program := "ytfmnpepgmedfpaagreatdoor", sum := "019ddc98a148187fb56e824e9785d9c37cf54b9dca771cf9072873553a038304", func := "muleteer/muleteerlaw18.NegoAsk", spec := "negoAsk", inPlace := ["internal/bytealg.IndexByteString", "math/bits.Add64", "slices.overlaps[int]", "slices.overlaps[muleteer/rset.pair]", "slices.overlaps[uint64]", "internal/bytealg.IndexString"], unfollowed := true, recurses := true, named := ["math/bits.divideError", "math/bits.overflowError", "muleteer/ival.weights", "unicode/utf8.first", "unicode/utf8.acceptRanges", "internal/strconv.uint64pow10", "math/bits.deBruijn32tab", "math/bits.deBruijn64tab", "internal/bytealg.MaxLen"], apart := false, laid := [("math/bits.deBruijn32tab", laid_math_bits_deBruijn32tab), ("math/bits.deBruijn64tab", laid_math_bits_deBruijn64tab), ("internal/strconv.uint64pow10", laid_internal_strconv_uint64pow10), ("muleteer/ival.weights", laid_muleteer_ival_weights), ("unicode/utf8.acceptRanges", laid_unicode_utf8_acceptRanges), ("unicode/utf8.first", laid_unicode_utf8_first)] }
def NegoAskSaid : Prop := negoAskRow.holds Tryz.pinned (OpenSpec.ofChange negoAskSpec)

/-- ITS FALSE NEIGHBOUR: 'it returns false'. Refute it at one input. -/
def negoAskWrong : ChangeSpec := { name := "negoAsk", fn := fun _ => fun
  | [d1, d2] => { results := [.lit (.bool false)], args := [d1, d2] }
  | _ => none }
def NegoAskWrongFalsely : Prop := negoAskRow.holds Tryz.pinned (OpenSpec.ofChange negoAskWrong)

/-- 'muleteerlaw18.QueueAll': WHATEVER THE INPUT: true; the input reads as it did. -/
def queueAllSpec : ChangeSpec := { name := "queueAll", fn := fun _ => fun
  | [d1, d2, d3] => { results := [.lit (.bool true)], args := [d1, d2, d3] }
  | _ => none }
def queueAllRow : OpenClaim := { program := "ytfmnpepgmedfpaagreatdoor", sum := "019ddc98a148187fb56e824e9785d9c37cf54b9dca771cf9072873553a038304", func := "muleteer/muleteerlaw18.QueueAll", spec := "queueAll", inPlace := ["internal/bytealg.IndexByteString", "math/bits.Add64", "slices.overlaps[int]", "slices.overlaps[muleteer/rset.pair]", "slices.overlaps[uint64]", "internal/bytealg.IndexString"], unfollowed := true, recurses := true, named := ["math/bits.divideError", "math/bits.overflowError", "muleteer/ival.weights", "unicode/utf8.first", "unicode/utf8.acceptRanges", "internal/strconv.uint64pow10", "math/bits.deBruijn32tab", "math/bits.deBruijn64tab", "internal/bytealg.MaxLen"], apart := false, laid := [("math/bits.deBruijn32tab", laid_math_bits_deBruijn32tab), ("math/bits.deBruijn64tab", laid_math_bits_deBruijn64tab), ("internal/strconv.uint64pow10", laid_internal_strconv_uint64pow10), ("muleteer/ival.weights", laid_muleteer_ival_weights), ("unicode/utf8.acceptRanges", laid_unicode_utf8_acceptRanges), ("unicode/utf8.first", laid_unicode_utf8_first)] }
def QueueAllSaid : Prop := queueAllRow.holds Tryz.pinned (OpenSpec.ofChange queueAllSpec)

/-- ITS FALSE NEIGHBOUR: 'it returns false'. Refute it at one input. -/
def queueAllWrong : ChangeSpec := { name := "queueAll", fn := fun _ => fun
  | [d1, d2, d3] => { results := [.lit (.bool false)], args := [d1, d2, d3] }
  | _ => none }
def QueueAllWrongFalsely : Prop := queueAllRow.holds Tryz.pinned (OpenSpec.ofChange queueAllWrong)

/-- 'muleteerlaw18.NegoTwo': WHATEVER THE INPUT: true; the input reads as it did. -/
def negoTwoSpec : ChangeSpec := { name := "negoTwo", fn := fun _ => fun
  | [d1, d2, d3, d4, d5] => { results := [.lit (.bool true)], args := [d1, d2, d3, d4, d5] }
  | _ => none }
def negoTwoRow : OpenClaim := { program := "ytfmnpepgmedfpaagreatdoor", sum := "019ddc98a148187fb56e824e9785d9c37cf54b9dca771cf9072873553a038304", func := "muleteer/muleteerlaw18.NegoTwo", spec := "negoTwo", inPlace := ["internal/bytealg.IndexByteString", "math/bits.Add64", "slices.overlaps[int]", "slices.overlaps[muleteer/rset.pair]", "slices.overlaps[uint64]", "internal/bytealg.IndexString"], unfollowed := true, recurses := true, named := ["math/bits.divideError", "math/bits.overflowError", "muleteer/ival.weights", "unicode/utf8.first", "unicode/utf8.acceptRanges", "internal/strconv.uint64pow10", "math/bits.deBruijn32tab", "math/bits.deBruijn64tab", "internal/bytealg.MaxLen"], apart := false, laid := [("math/bits.deBruijn32tab", laid_math_bits_deBruijn32tab), ("math/bits.deBruijn64tab", laid_math_bits_deBruijn64tab), ("internal/strconv.uint64pow10", laid_internal_strconv_uint64pow10), ("muleteer/ival.weights", laid_muleteer_ival_weights), ("unicode/utf8.acceptRanges", laid_unicode_utf8_acceptRanges), ("unicode/utf8.first", laid_unicode_utf8_first)] }
def NegoTwoSaid : Prop := negoTwoRow.holds Tryz.pinned (OpenSpec.ofChange negoTwoSpec)

/-- ITS FALSE NEIGHBOUR: 'it returns false'. Refute it at one input. -/
def negoTwoWrong : ChangeSpec := { name := "negoTwo", fn := fun _ => fun
  | [d1, d2, d3, d4, d5] => { results := [.lit (.bool false)], args := [d1, d2, d3, d4, d5] }
  | _ => none }
def NegoTwoWrongFalsely : Prop := negoTwoRow.holds Tryz.pinned (OpenSpec.ofChange negoTwoWrong)

/- THE SECOND FORM. 'bulk': how many values and letters a reading holds, each counted each time it is reached (what is shared counts as often as it is met; a slice's spare places count too). A statement '..UptoSaid' is the law's where the arguments, and the package variables that the reading takes, are together of bulk at most 1048576: NARROWER than '..Said'. Prove '..Said' where nothing that the law and all that it calls make is longer than what came in: it says more and counts as full. Else prove '..UptoSaid'. A law counts once. -/
mutual
def uptoBulk {H : Type} : DataW H → Nat
  | .lit (.string bytes) => bytes.length + 1
  | .lit _ => 1
  | .nil => 1
  | .ptr d => uptoBulk d + 1
  | .slice elems spare => uptoBulkAll elems + uptoBulkAll spare + 1
  | .agg parts => uptoBulkAll parts + 1
  | .iface _ d => uptoBulk d + 1
  | .map entries => uptoBulkEntries entries + 1
  | .held _ => 1
def uptoBulkAll {H : Type} : List (DataW H) → Nat
  | [] => 0
  | d :: r => uptoBulk d + uptoBulkAll r
def uptoBulkEntries {H : Type} : List (Lit × DataW H) → Nat
  | [] => 0
  | x :: r => uptoBulkEntry x + uptoBulkEntries r
def uptoBulkEntry {H : Type} : Lit × DataW H → Nat
  | (.string bytes, d) => bytes.length + uptoBulk d + 1
  | (_, d) => uptoBulk d + 1
 end
def uptoSmall : (H : Type) → List (DataW H) → Bool := fun _ ds => decide (uptoBulkAll ds ≤ 1048576)
def OpenSpec.upto (s : _root_.Go.ChangeSpec) : _root_.Go.OpenSpec := { _root_.Go.OpenSpec.ofChange s with cond := some uptoSmall }

/-- 'muleteerlaw18.PaceAll', WHERE WHAT IT READS IS OF BULK AT MOST 1048576: true; the input reads as it did. -/
def paceAllUptoRow : OpenClaim := { program := "ytfmnpepgmedfpaagreatdoor", sum := "019ddc98a148187fb56e824e9785d9c37cf54b9dca771cf9072873553a038304", func := "muleteer/muleteerlaw18.PaceAll", spec := "paceAll", inPlace := ["internal/bytealg.IndexByteString", "math/bits.Add64", "slices.overlaps[int]", "slices.overlaps[muleteer/rset.pair]", "slices.overlaps[uint64]", "internal/bytealg.IndexString"], unfollowed := true, recurses := true, named := ["math/bits.divideError", "math/bits.overflowError", "muleteer/ival.weights", "unicode/utf8.first", "unicode/utf8.acceptRanges", "internal/strconv.uint64pow10", "math/bits.deBruijn32tab", "math/bits.deBruijn64tab", "internal/bytealg.MaxLen"], apart := false, laid := [("math/bits.deBruijn32tab", laid_math_bits_deBruijn32tab), ("math/bits.deBruijn64tab", laid_math_bits_deBruijn64tab), ("internal/strconv.uint64pow10", laid_internal_strconv_uint64pow10), ("muleteer/ival.weights", laid_muleteer_ival_weights), ("unicode/utf8.acceptRanges", laid_unicode_utf8_acceptRanges), ("unicode/utf8.first", laid_unicode_utf8_first)], narrowed := true }
def PaceAllUptoSaid : Prop := paceAllUptoRow.holds Tryz.pinned (OpenSpec.upto paceAllSpec)

/-- 'muleteerlaw18.PaceBound', WHERE WHAT IT READS IS OF BULK AT MOST 1048576: true; the input reads as it did. -/
def paceBoundUptoRow : OpenClaim := { program := "ytfmnpepgmedfpaagreatdoor", sum := "019ddc98a148187fb56e824e9785d9c37cf54b9dca771cf9072873553a038304", func := "muleteer/muleteerlaw18.PaceBound", spec := "paceBound", inPlace := ["internal/bytealg.IndexByteString", "math/bits.Add64", "slices.overlaps[int]", "slices.overlaps[muleteer/rset.pair]", "slices.overlaps[uint64]", "internal/bytealg.IndexString"], unfollowed := true, recurses := true, named := ["math/bits.divideError", "math/bits.overflowError", "muleteer/ival.weights", "unicode/utf8.first", "unicode/utf8.acceptRanges", "internal/strconv.uint64pow10", "math/bits.deBruijn32tab", "math/bits.deBruijn64tab", "internal/bytealg.MaxLen"], apart := false, laid := [("math/bits.deBruijn32tab", laid_math_bits_deBruijn32tab), ("math/bits.deBruijn64tab", laid_math_bits_deBruijn64tab), ("internal/strconv.uint64pow10", laid_internal_strconv_uint64pow10), ("muleteer/ival.weights", laid_muleteer_ival_weights), ("unicode/utf8.acceptRanges", laid_unicode_utf8_acceptRanges), ("unicode/utf8.first", laid_unicode_utf8_first)], narrowed := true }
def PaceBoundUptoSaid : Prop := paceBoundUptoRow.holds Tryz.pinned (OpenSpec.upto paceBoundSpec)

/-- 'muleteerlaw18.PaceWhen', WHERE WHAT IT READS IS OF BULK AT MOST 1048576: true; the input reads as it did. -/
def paceWhenUptoRow : OpenClaim := { program := "ytfmnpepgmedfpaagreatdoor", sum := "019ddc98a148187fb56e824e9785d9c37cf54b9dca771cf9072873553a038304", func := "muleteer/muleteerlaw18.PaceWhen", spec := "paceWhen", inPlace := ["internal/bytealg.IndexByteString", "math/bits.Add64", "slices.overlaps[int]", "slices.overlaps[muleteer/rset.pair]", "slices.overlaps[uint64]", "internal/bytealg.IndexString"], unfollowed := true, recurses := true, named := ["math/bits.divideError", "math/bits.overflowError", "muleteer/ival.weights", "unicode/utf8.first", "unicode/utf8.acceptRanges", "internal/strconv.uint64pow10", "math/bits.deBruijn32tab", "math/bits.deBruijn64tab", "internal/bytealg.MaxLen"], apart := false, laid := [("math/bits.deBruijn32tab", laid_math_bits_deBruijn32tab), ("math/bits.deBruijn64tab", laid_math_bits_deBruijn64tab), ("internal/strconv.uint64pow10", laid_internal_strconv_uint64pow10), ("muleteer/ival.weights", laid_muleteer_ival_weights), ("unicode/utf8.acceptRanges", laid_unicode_utf8_acceptRanges), ("unicode/utf8.first", laid_unicode_utf8_first)], narrowed := true }
def PaceWhenUptoSaid : Prop := paceWhenUptoRow.holds Tryz.pinned (OpenSpec.upto paceWhenSpec)

/-- 'muleteerlaw18.PaceFull', WHERE WHAT IT READS IS OF BULK AT MOST 1048576: true; the input reads as it did. -/
def paceFullUptoRow : OpenClaim := { program := "ytfmnpepgmedfpaagreatdoor", sum := "019ddc98a148187fb56e824e9785d9c37cf54b9dca771cf9072873553a038304", func := "muleteer/muleteerlaw18.PaceFull", spec := "paceFull", inPlace := ["internal/bytealg.IndexByteString", "math/bits.Add64", "slices.overlaps[int]", "slices.overlaps[muleteer/rset.pair]", "slices.overlaps[uint64]", "internal/bytealg.IndexString"], unfollowed := true, recurses := true, named := ["math/bits.divideError", "math/bits.overflowError", "muleteer/ival.weights", "unicode/utf8.first", "unicode/utf8.acceptRanges", "internal/strconv.uint64pow10", "math/bits.deBruijn32tab", "math/bits.deBruijn64tab", "internal/bytealg.MaxLen"], apart := false, laid := [("math/bits.deBruijn32tab", laid_math_bits_deBruijn32tab), ("math/bits.deBruijn64tab", laid_math_bits_deBruijn64tab), ("internal/strconv.uint64pow10", laid_internal_strconv_uint64pow10), ("muleteer/ival.weights", laid_muleteer_ival_weights), ("unicode/utf8.acceptRanges", laid_unicode_utf8_acceptRanges), ("unicode/utf8.first", laid_unicode_utf8_first)], narrowed := true }
def PaceFullUptoSaid : Prop := paceFullUptoRow.holds Tryz.pinned (OpenSpec.upto paceFullSpec)

/-- 'muleteerlaw18.PaceFall', WHERE WHAT IT READS IS OF BULK AT MOST 1048576: true; the input reads as it did. -/
def paceFallUptoRow : OpenClaim := { program := "ytfmnpepgmedfpaagreatdoor", sum := "019ddc98a148187fb56e824e9785d9c37cf54b9dca771cf9072873553a038304", func := "muleteer/muleteerlaw18.PaceFall", spec := "paceFall", inPlace := ["internal/bytealg.IndexByteString", "math/bits.Add64", "slices.overlaps[int]", "slices.overlaps[muleteer/rset.pair]", "slices.overlaps[uint64]", "internal/bytealg.IndexString"], unfollowed := true, recurses := true, named := ["math/bits.divideError", "math/bits.overflowError", "muleteer/ival.weights", "unicode/utf8.first", "unicode/utf8.acceptRanges", "internal/strconv.uint64pow10", "math/bits.deBruijn32tab", "math/bits.deBruijn64tab", "internal/bytealg.MaxLen"], apart := false, laid := [("math/bits.deBruijn32tab", laid_math_bits_deBruijn32tab), ("math/bits.deBruijn64tab", laid_math_bits_deBruijn64tab), ("internal/strconv.uint64pow10", laid_internal_strconv_uint64pow10), ("muleteer/ival.weights", laid_muleteer_ival_weights), ("unicode/utf8.acceptRanges", laid_unicode_utf8_acceptRanges), ("unicode/utf8.first", laid_unicode_utf8_first)], narrowed := true }
def PaceFallUptoSaid : Prop := paceFallUptoRow.holds Tryz.pinned (OpenSpec.upto paceFallSpec)

/-- 'muleteerlaw18.FeatChoose', WHERE WHAT IT READS IS OF BULK AT MOST 1048576: true; the input reads as it did. -/
def featChooseUptoRow : OpenClaim := { program := "ytfmnpepgmedfpaagreatdoor", sum := "019ddc98a148187fb56e824e9785d9c37cf54b9dca771cf9072873553a038304", func := "muleteer/muleteerlaw18.FeatChoose", spec := "featChoose", inPlace := ["internal/bytealg.IndexByteString", "math/bits.Add64", "slices.overlaps[int]", "slices.overlaps[muleteer/rset.pair]", "slices.overlaps[uint64]", "internal/bytealg.IndexString"], unfollowed := true, recurses := true, named := ["math/bits.divideError", "math/bits.overflowError", "muleteer/ival.weights", "unicode/utf8.first", "unicode/utf8.acceptRanges", "internal/strconv.uint64pow10", "math/bits.deBruijn32tab", "math/bits.deBruijn64tab", "internal/bytealg.MaxLen"], apart := false, laid := [("math/bits.deBruijn32tab", laid_math_bits_deBruijn32tab), ("math/bits.deBruijn64tab", laid_math_bits_deBruijn64tab), ("internal/strconv.uint64pow10", laid_internal_strconv_uint64pow10), ("muleteer/ival.weights", laid_muleteer_ival_weights), ("unicode/utf8.acceptRanges", laid_unicode_utf8_acceptRanges), ("unicode/utf8.first", laid_unicode_utf8_first)], narrowed := true }
def FeatChooseUptoSaid : Prop := featChooseUptoRow.holds Tryz.pinned (OpenSpec.upto featChooseSpec)

/-- 'muleteerlaw18.NegoBad', WHERE WHAT IT READS IS OF BULK AT MOST 1048576: true; the input reads as it did. -/
def negoBadUptoRow : OpenClaim := { program := "ytfmnpepgmedfpaagreatdoor", sum := "019ddc98a148187fb56e824e9785d9c37cf54b9dca771cf9072873553a038304", func := "muleteer/muleteerlaw18.NegoBad", spec := "negoBad", inPlace := ["internal/bytealg.IndexByteString", "math/bits.Add64", "slices.overlaps[int]", "slices.overlaps[muleteer/rset.pair]", "slices.overlaps[uint64]", "internal/bytealg.IndexString"], unfollowed := true, recurses := true, named := ["math/bits.divideError", "math/bits.overflowError", "muleteer/ival.weights", "unicode/utf8.first", "unicode/utf8.acceptRanges", "internal/strconv.uint64pow10", "math/bits.deBruijn32tab", "math/bits.deBruijn64tab", "internal/bytealg.MaxLen"], apart := false, laid := [("math/bits.deBruijn32tab", laid_math_bits_deBruijn32tab), ("math/bits.deBruijn64tab", laid_math_bits_deBruijn64tab), ("internal/strconv.uint64pow10", laid_internal_strconv_uint64pow10), ("muleteer/ival.weights", laid_muleteer_ival_weights), ("unicode/utf8.acceptRanges", laid_unicode_utf8_acceptRanges), ("unicode/utf8.first", laid_unicode_utf8_first)], narrowed := true }
def NegoBadUptoSaid : Prop := negoBadUptoRow.holds Tryz.pinned (OpenSpec.upto negoBadSpec)

/-- 'muleteerlaw18.NegoMust', WHERE WHAT IT READS IS OF BULK AT MOST 1048576: true; the input reads as it did. -/
def negoMustUptoRow : OpenClaim := { program := "ytfmnpepgmedfpaagreatdoor", sum := "019ddc98a148187fb56e824e9785d9c37cf54b9dca771cf9072873553a038304", func := "muleteer/muleteerlaw18.NegoMust", spec := "negoMust", inPlace := ["internal/bytealg.IndexByteString", "math/bits.Add64", "slices.overlaps[int]", "slices.overlaps[muleteer/rset.pair]", "slices.overlaps[uint64]", "internal/bytealg.IndexString"], unfollowed := true, recurses := true, named := ["math/bits.divideError", "math/bits.overflowError", "muleteer/ival.weights", "unicode/utf8.first", "unicode/utf8.acceptRanges", "internal/strconv.uint64pow10", "math/bits.deBruijn32tab", "math/bits.deBruijn64tab", "internal/bytealg.MaxLen"], apart := false, laid := [("math/bits.deBruijn32tab", laid_math_bits_deBruijn32tab), ("math/bits.deBruijn64tab", laid_math_bits_deBruijn64tab), ("internal/strconv.uint64pow10", laid_internal_strconv_uint64pow10), ("muleteer/ival.weights", laid_muleteer_ival_weights), ("unicode/utf8.acceptRanges", laid_unicode_utf8_acceptRanges), ("unicode/utf8.first", laid_unicode_utf8_first)], narrowed := true }
def NegoMustUptoSaid : Prop := negoMustUptoRow.holds Tryz.pinned (OpenSpec.upto negoMustSpec)

/-- 'muleteerlaw18.NegoAgain', WHERE WHAT IT READS IS OF BULK AT MOST 1048576: true; the input reads as it did. -/
def negoAgainUptoRow : OpenClaim := { program := "ytfmnpepgmedfpaagreatdoor", sum := "019ddc98a148187fb56e824e9785d9c37cf54b9dca771cf9072873553a038304", func := "muleteer/muleteerlaw18.NegoAgain", spec := "negoAgain", inPlace := ["internal/bytealg.IndexByteString", "math/bits.Add64", "slices.overlaps[int]", "slices.overlaps[muleteer/rset.pair]", "slices.overlaps[uint64]", "internal/bytealg.IndexString"], unfollowed := true, recurses := true, named := ["math/bits.divideError", "math/bits.overflowError", "muleteer/ival.weights", "unicode/utf8.first", "unicode/utf8.acceptRanges", "internal/strconv.uint64pow10", "math/bits.deBruijn32tab", "math/bits.deBruijn64tab", "internal/bytealg.MaxLen"], apart := false, laid := [("math/bits.deBruijn32tab", laid_math_bits_deBruijn32tab), ("math/bits.deBruijn64tab", laid_math_bits_deBruijn64tab), ("internal/strconv.uint64pow10", laid_internal_strconv_uint64pow10), ("muleteer/ival.weights", laid_muleteer_ival_weights), ("unicode/utf8.acceptRanges", laid_unicode_utf8_acceptRanges), ("unicode/utf8.first", laid_unicode_utf8_first)], narrowed := true }
def NegoAgainUptoSaid : Prop := negoAgainUptoRow.holds Tryz.pinned (OpenSpec.upto negoAgainSpec)

/-- 'muleteerlaw18.NegoAsk', WHERE WHAT IT READS IS OF BULK AT MOST 1048576: true; the input reads as it did. -/
def negoAskUptoRow : OpenClaim := { program := "ytfmnpepgmedfpaagreatdoor", sum := "019ddc98a148187fb56e824e9785d9c37cf54b9dca771cf9072873553a038304", func := "muleteer/muleteerlaw18.NegoAsk", spec := "negoAsk", inPlace := ["internal/bytealg.IndexByteString", "math/bits.Add64", "slices.overlaps[int]", "slices.overlaps[muleteer/rset.pair]", "slices.overlaps[uint64]", "internal/bytealg.IndexString"], unfollowed := true, recurses := true, named := ["math/bits.divideError", "math/bits.overflowError", "muleteer/ival.weights", "unicode/utf8.first", "unicode/utf8.acceptRanges", "internal/strconv.uint64pow10", "math/bits.deBruijn32tab", "math/bits.deBruijn64tab", "internal/bytealg.MaxLen"], apart := false, laid := [("math/bits.deBruijn32tab", laid_math_bits_deBruijn32tab), ("math/bits.deBruijn64tab", laid_math_bits_deBruijn64tab), ("internal/strconv.uint64pow10", laid_internal_strconv_uint64pow10), ("muleteer/ival.weights", laid_muleteer_ival_weights), ("unicode/utf8.acceptRanges", laid_unicode_utf8_acceptRanges), ("unicode/utf8.first", laid_unicode_utf8_first)], narrowed := true }
def NegoAskUptoSaid : Prop := negoAskUptoRow.holds Tryz.pinned (OpenSpec.upto negoAskSpec)

/-- 'muleteerlaw18.QueueAll', WHERE WHAT IT READS IS OF BULK AT MOST 1048576: true; the input reads as it did. -/
def queueAllUptoRow : OpenClaim := { program := "ytfmnpepgmedfpaagreatdoor", sum := "019ddc98a148187fb56e824e9785d9c37cf54b9dca771cf9072873553a038304", func := "muleteer/muleteerlaw18.QueueAll", spec := "queueAll", inPlace := ["internal/bytealg.IndexByteString", "math/bits.Add64", "slices.overlaps[int]", "slices.overlaps[muleteer/rset.pair]", "slices.overlaps[uint64]", "internal/bytealg.IndexString"], unfollowed := true, recurses := true, named := ["math/bits.divideError", "math/bits.overflowError", "muleteer/ival.weights", "unicode/utf8.first", "unicode/utf8.acceptRanges", "internal/strconv.uint64pow10", "math/bits.deBruijn32tab", "math/bits.deBruijn64tab", "internal/bytealg.MaxLen"], apart := false, laid := [("math/bits.deBruijn32tab", laid_math_bits_deBruijn32tab), ("math/bits.deBruijn64tab", laid_math_bits_deBruijn64tab), ("internal/strconv.uint64pow10", laid_internal_strconv_uint64pow10), ("muleteer/ival.weights", laid_muleteer_ival_weights), ("unicode/utf8.acceptRanges", laid_unicode_utf8_acceptRanges), ("unicode/utf8.first", laid_unicode_utf8_first)], narrowed := true }
def QueueAllUptoSaid : Prop := queueAllUptoRow.holds Tryz.pinned (OpenSpec.upto queueAllSpec)

/-- 'muleteerlaw18.NegoTwo', WHERE WHAT IT READS IS OF BULK AT MOST 1048576: true; the input reads as it did. -/
def negoTwoUptoRow : OpenClaim := { program := "ytfmnpepgmedfpaagreatdoor", sum := "019ddc98a148187fb56e824e9785d9c37cf54b9dca771cf9072873553a038304", func := "muleteer/muleteerlaw18.NegoTwo", spec := "negoTwo", inPlace := ["internal/bytealg.IndexByteString", "math/bits.Add64", "slices.overlaps[int]", "slices.overlaps[muleteer/rset.pair]", "slices.overlaps[uint64]", "internal/bytealg.IndexString"], unfollowed := true, recurses := true, named := ["math/bits.divideError", "math/bits.overflowError", "muleteer/ival.weights", "unicode/utf8.first", "unicode/utf8.acceptRanges", "internal/strconv.uint64pow10", "math/bits.deBruijn32tab", "math/bits.deBruijn64tab", "internal/bytealg.MaxLen"], apart := false, laid := [("math/bits.deBruijn32tab", laid_math_bits_deBruijn32tab), ("math/bits.deBruijn64tab", laid_math_bits_deBruijn64tab), ("internal/strconv.uint64pow10", laid_internal_strconv_uint64pow10), ("muleteer/ival.weights", laid_muleteer_ival_weights), ("unicode/utf8.acceptRanges", laid_unicode_utf8_acceptRanges), ("unicode/utf8.first", laid_unicode_utf8_first)], narrowed := true }
def NegoTwoUptoSaid : Prop := negoTwoUptoRow.holds Tryz.pinned (OpenSpec.upto negoTwoSpec)

end Rows
end Go.Proofs.YtfmnpepgmedfpaaGreatDoor
