/-
  Package vec: states, what is told twice; the law VecMerge.
-/
import Derived.Test.YtbiglbclifbmhaaGreatDoorBel
import Derived.Test.YtbiglbclifbmhaaGreatDoorWords
import Derived.Test.YtbiglbclifbmhaaGreatDoorChecked
import Derived.WalkKit
import Derived.ProofKit
import Derived.LoopTactic
import Derived.Outline
import Derived.BigQuiet
namespace Go.Proofs.YtbiglbclifbmhaaGreatDoor
open Go.ChangeShapes Go.WideShapes Go.ChangeAt Go.RowKit
set_option linter.unusedVariables false
set_option linter.unusedSimpArgs false

def stB (s : Int) : Bool := decide (s = 0 ∨ s = 1 ∨ s = 3)
/-- The states, and what is none. -/
theorem st_cases (s : Int) : s = 0 ∨ s = 1 ∨ s = 3 ∨ ((s == 0) = false ∧ (s == 1) = false ∧ (s == 3) = false ∧ stB s = false) := by
  by_cases h0 : s = 0
  · exact .inl h0
  by_cases h1 : s = 1
  · exact .inr (.inl h1)
  by_cases h3 : s = 3
  · exact .inr (.inr (.inl h3))
  refine .inr (.inr (.inr ⟨?_, ?_, ?_, ?_⟩))
  · rw [beq_eq_false_iff_ne]; exact h0
  · rw [beq_eq_false_iff_ne]; exact h1
  · rw [beq_eq_false_iff_ne]; exact h3
  · exact decide_eq_false (by omega)
theorem isState_any (s : Int) (w : World) : Calls Tryz.prog 70 #[.int .i64 s] w fun e w' => e = .returned (.bool (stB s)) ∧ w = w' := by
  rcases st_cases s with rfl | rfl | rfl | ⟨h0, h1, h3, hb⟩
  case inr.inr.inr =>
    have HB := Lib.hid hb
    clear hb
    go_enter Tryz.func70, Tryz.ntmps70
    go_wp2
    go_ret
    exact ⟨by rw [HB.out]; rfl, rfl⟩
  all_goals
    go_enter Tryz.func70, Tryz.ntmps70
    go_wp2
    go_ret
    exact ⟨rfl, rfl⟩
/-- What is known of a number that is told as a, and as b. -/
def mergeV (a b : Int) : Int := if stB a && stB b then (if a = 1 ∨ b = 1 then 1 else if a = 0 ∨ b = 0 then 0 else 3) else 0
set_option maxHeartbeats 2000000 in
theorem merge_any (a b : Int) (w : World) : Calls Tryz.prog 31 #[.int .i64 a, .int .i64 b] w fun e w' => e = .returned (.tuple #[.int .i64 (mergeV a b), .bool (stB a && stB b)]) ∧ w = w' := by
  have HA := Lib.hid (fun w => isState_any a w)
  have HB := Lib.hid (fun w => isState_any b w)
  rcases st_cases a with rfl | rfl | rfl | ⟨h0, h1, h3, hb⟩
  case inr.inr.inr =>
    have HZ := Lib.hid hb
    rw [hb] at HA
    clear hb
    go_enter Tryz.func31, Tryz.ntmps31
    go_wp2_with (go_at_call 70; first | (with_reducible refine (HA.out _).mono ?_; rintro e w1 ⟨rfl, rfl⟩) | (with_reducible refine (HB.out _).mono ?_; rintro e w1 ⟨rfl, rfl⟩))
    go_ret2
    exact ⟨by unfold mergeV; rw [HZ.out]; rfl, rfl⟩
  all_goals
    rcases st_cases b with rfl | rfl | rfl | ⟨g0, g1, g3, gb⟩
  case inl.inr.inr.inr | inr.inl.inr.inr.inr | inr.inr.inl.inr.inr.inr =>
    have HZ := Lib.hid gb
    rw [gb] at HB
    clear gb
    go_enter Tryz.func31, Tryz.ntmps31
    go_wp2_with (go_at_call 70; first | (with_reducible refine (HA.out _).mono ?_; rintro e w1 ⟨rfl, rfl⟩) | (with_reducible refine (HB.out _).mono ?_; rintro e w1 ⟨rfl, rfl⟩))
    go_ret2
    exact ⟨by unfold mergeV; rw [HZ.out]; rfl, rfl⟩
  all_goals
    go_enter Tryz.func31, Tryz.ntmps31
    go_wp2_with (go_at_call 70; first | (with_reducible refine (HA.out _).mono ?_; rintro e w1 ⟨rfl, rfl⟩) | (with_reducible refine (HB.out _).mono ?_; rintro e w1 ⟨rfl, rfl⟩))
    go_ret2
    exact ⟨rfl, rfl⟩
end Go.Proofs.YtbiglbclifbmhaaGreatDoor
