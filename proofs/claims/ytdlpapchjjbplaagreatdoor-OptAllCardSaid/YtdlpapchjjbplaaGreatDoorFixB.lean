/-
  What the roots and quotients of package fix and of the document's own answers come to.
-/
import Derived.Test.YtdlpapchjjbplaaGreatDoorFixA
import Derived.Test.YtdlpapchjjbplaaGreatDoorShelf
import Derived.Test.YtdlpapchjjbplaaGreatDoorKnuth
import Derived.LoopTactic
import Derived.Outline
namespace Go.Proofs.YtdlpapchjjbplaaGreatDoor
open Go.ChangeShapes Go.WideShapes Go.ChangeAt Go.RowKit
set_option linter.unusedVariables false

theorem productLen_any (h l : Nat) (hh : h < 18446744073709551616) (hl : l < 18446744073709551616) (w : World) :
    Calls Tryz.prog 98 #[.int .u64 h, .int .u64 l] w fun e w' => e = .returned (.int .i64 (M.plen h l)) ∧ w = w' := by
  have hb1 := (M.bitLen_spec h hh).2.1
  have hb2 := (M.bitLen_spec l hl).2.1
  by_cases h0 : h = 0
  · subst h0
    go_enter Tryz.func98, Tryz.ntmps98
    go_wp2_with fail
    refine (Tryz.bits_Len64 l _ (by omega) (by omega)).mono ?_
    rintro e w' ⟨rfl, rfl⟩
    go_wp2
    go_ret
    exact ⟨M.ret_int (by simp [M.plen]), rfl⟩
  · have h1 : (((h : Nat) : Int) != 0) = true := by rw [bne_iff_ne]; omega
    have H0 := Lib.hid h0; clear h0
    go_enter Tryz.func98, Tryz.ntmps98
    go_wp2_with fail
    refine (Tryz.bits_Len64 h _ (by omega) (by omega)).mono ?_
    rintro e w' ⟨rfl, rfl⟩
    go_wp2
    go_ret
    exact ⟨M.ret_int (by simp [M.plen, H0.out]), rfl⟩

theorem mul64_at {a b q r : Nat} (ha : a < 18446744073709551616) (hb : b < 18446744073709551616) (h : a * b = q * 18446744073709551616 + r) (hr : r < 18446744073709551616) (w : World) :
    Calls Tryz.prog 80 #[.int .u64 a, .int .u64 b] w fun e w' => e = .returned (.tuple #[.int .u64 q, .int .u64 r]) ∧ w = w' := by
  have := mul64_any a b ha hb w
  rw [M.half_hi h hr, M.half_lo h hr] at this
  exact this
end Go.Proofs.YtdlpapchjjbplaaGreatDoor
