/-
  The law VecMerge, walked.
-/
import Derived.Test.YtnffdacajdjeoaaGreatDoorVecA
import Derived.Test.YtnffdacajdjeoaaGreatDoorBegun8
namespace Go.Proofs.YtnffdacajdjeoaaGreatDoor
open Go.ChangeShapes Go.WideShapes Go.ChangeAt Go.RowKit
set_option linter.unusedVariables false
set_option linter.unusedSimpArgs false

set_option maxHeartbeats 4000000 in
theorem vecMerge_walk (a b : Int) (w : World) (hT : TabW w) : Calls Tryz.prog 4 #[.int .i64 a, .int .i64 b] w fun e w' => e = .returned (.bool true) ∧ Below w.heap.size w w' := by
  have HBG : Hid (∀ W, Below w.heap.size w W → Calls Tryz.prog 18 #[] W fun e w' => e = .returned (.bool true) ∧ Below W.heap.size W w') := Lib.hid (fun W hb => begun8_any W (hT.below hb))
  clear hT
  have HA := Lib.hid (fun w => refState_any a w)
  have HB := Lib.hid (fun w => refState_any b w)
  have HM1 := Lib.hid (fun w => merge_any a b w)
  have HM2 := Lib.hid (fun w => merge_any b a w)
  by_cases hab : stB a = true ∧ stB b = true
  · obtain ⟨ha, hb⟩ := hab
    have hm : mergeV a b = (if a = 1 ∨ b = 1 then 1 else if a = 0 ∨ b = 0 then 0 else 3) := by unfold mergeV; rw [ha, hb]; rfl
    have hm2 : mergeV b a = mergeV a b := by
      rw [hm]; unfold mergeV; rw [ha, hb]
      simp only [Bool.and_self, if_true, Or.comm]
    rw [ha, hb, hm2, hm] at HM2
    rw [ha, hb, hm] at HM1
    rw [ha] at HA
    rw [hb] at HB
    have hca := of_decide_eq_true ha
    have hcb := of_decide_eq_true hb
    clear ha hb hm hm2
    rcases hca with rfl | rfl | rfl <;> rcases hcb with rfl | rfl | rfl
    all_goals
      simp only [Bool.and_self, if_true, or_true, true_or, or_false, false_or, if_false, show ¬ ((0 : Int) = 1) by decide, show ¬ ((3 : Int) = 1) by decide, show ¬ ((3 : Int) = 0) by decide, show ¬ ((1 : Int) = 0) by decide] at HM1 HM2
      go_enter Tryz.func4, Tryz.ntmps4
      go_wp2_with (first
        | (go_at_call 18; refine (HBG.out _ (by first | exact Below.refl _ _ | exact bel_alloc _ _ | exact bel_trans (bel_alloc _ _) (bel_alloc _ _))).mono ?_; rintro e w0 ⟨rfl, hb0⟩)
        | (go_at_call 31; first | (with_reducible refine (HM1.out _).mono ?_; rintro e w1 ⟨rfl, rfl⟩) | (with_reducible refine (HM2.out _).mono ?_; rintro e w1 ⟨rfl, rfl⟩))
        | (go_at_call 32; first | (with_reducible refine (HA.out _).mono ?_; rintro e w1 ⟨rfl, rfl⟩) | (with_reducible refine (HB.out _).mono ?_; rintro e w1 ⟨rfl, rfl⟩)))
      go_ret
      exact ⟨rfl, hb0⟩
  · have hm : mergeV a b = 0 ∧ (stB a && stB b) = false := by
      unfold mergeV
      cases ha : stB a <;> cases hb : stB b <;> simp_all
    rw [hm.1, hm.2] at HM1
    clear HM2 hm
    cases ha : stB a with
    | false =>
      rw [ha] at HA
      clear ha hab
      go_enter Tryz.func4, Tryz.ntmps4
      go_wp2_with (first
        | (go_at_call 18; refine (HBG.out _ (by first | exact Below.refl _ _ | exact bel_alloc _ _ | exact bel_trans (bel_alloc _ _) (bel_alloc _ _))).mono ?_; rintro e w0 ⟨rfl, hb0⟩)
        | (go_at_call 31; (with_reducible refine (HM1.out _).mono ?_; rintro e w1 ⟨rfl, rfl⟩))
        | (go_at_call 32; (with_reducible refine (HA.out _).mono ?_; rintro e w1 ⟨rfl, rfl⟩)))
      go_ret
      exact ⟨rfl, hb0⟩
    | true =>
      have hb : stB b = false := by
        cases hb : stB b with
        | false => rfl
        | true => exact absurd ⟨ha, hb⟩ hab
      rw [ha] at HA
      rw [hb] at HB
      clear ha hb hab
      go_enter Tryz.func4, Tryz.ntmps4
      go_wp2_with (first
        | (go_at_call 18; refine (HBG.out _ (by first | exact Below.refl _ _ | exact bel_alloc _ _ | exact bel_trans (bel_alloc _ _) (bel_alloc _ _))).mono ?_; rintro e w0 ⟨rfl, hb0⟩)
        | (go_at_call 31; (with_reducible refine (HM1.out _).mono ?_; rintro e w1 ⟨rfl, rfl⟩))
        | (go_at_call 32; first | (with_reducible refine (HA.out _).mono ?_; rintro e w1 ⟨rfl, rfl⟩) | (with_reducible refine (HB.out _).mono ?_; rintro e w1 ⟨rfl, rfl⟩)))
      go_ret
      exact ⟨rfl, hb0⟩
end Go.Proofs.YtnffdacajdjeoaaGreatDoor
