/-
  The document's signs.
-/
import Derived.Test.YtjbcjcfmjagbkaaGreatDoorCodeD
namespace Go.Proofs.YtjbcjcfmjagbkaaGreatDoor
open Go.ChangeShapes Go.WideShapes Go.ChangeAt Go.RowKit
set_option linter.unusedVariables false

theorem isSgn_marks : ∀ c : Fin 256, (∃ i : Fin 8, M.bAt marksL i.val = c.val) → M.isSgn c.val = true := by decide +kernel
theorem isSgn_nomarks : ∀ c : Fin 256, (∀ i : Fin 8, M.bAt marksL i.val ≠ c.val) → M.isSgn c.val = (M.isLet c.val || M.isDig c.val) := by decide +kernel

set_option maxHeartbeats 4000000 in
set_option maxRecDepth 100000 in
theorem refSign_any (c : Nat) (hc : c < 256) (w : World) :
    Calls Tryz.prog 79 #[.int .u8 c] w fun e w' => e = .returned (.bool (M.isSgn c)) ∧ w = w' := by
  have HIX : ∀ j : Nat, j < 8 → ∀ W, (Instr.index 9 (.string ⟨#[45, 95, 43, 46, 42, 47, 63, 64]⟩) (.int .i64 (j : Int))).run Tryz.prog W = .ok (.int .u8 (M.bAt marksL j)) W := fun j hj W => index_at marksL _ rfl j hj _ rfl W
  have HIX := Lib.hid HIX
  go_enter Tryz.func79, Tryz.ntmps79
  go_wp2
  go_loop [3] (fun i => ∃ j : Nat, j ≤ 8 ∧ i = .int .i64 (j : Int) ∧ Hid (∀ k, k < j → M.bAt marksL k ≠ c)) (fun i => 8 - (intOf i).toNat)
  case atStart => exact ⟨0, by omega, rfl, Lib.hid (fun k hk => absurd hk (Nat.not_lt_zero k))⟩
  case round =>
    obtain ⟨j, hj, rfl, hne⟩ := hrel
    by_cases hj8 : j < 8
    · have hi := HIX.out j hj8
      by_cases hbc : M.bAt marksL j = c
      · have HS : Hid (M.isSgn c = true) := Lib.hid (isSgn_marks ⟨c, hc⟩ ⟨⟨j, hj8⟩, hbc⟩)
        have d1 : ((M.bAt marksL j : Int) == (c : Int)) = true := by rw [hbc]; exact beq_self_eq_true _
        clear hbc
        go_wp2
        go_ret
        exact ⟨M.ret_bool HS.out.symm, rfl⟩
      · have d1 : ((M.bAt marksL j : Int) == (c : Int)) = false := beq_eq_false_iff_ne.2 (by omega)
        have HN : Hid (∀ k, k < j + 1 → M.bAt marksL k ≠ c) := Lib.hid (fun k hk => by
          by_cases hkj : k = j
          · subst hkj; exact hbc
          · exact hne.out k (by omega))
        clear hbc
        go_wp2
        case roundEnd =>
          refine ⟨⟨j + 1, by omega, by go_num, HN⟩, ?_⟩
          show 8 - ((j : Int) + 1).toNat < 8 - (j : Int).toNat
          omega
    · obtain rfl : j = 8 := by omega
      have HS : Hid (M.isSgn c = (M.isLet c || M.isDig c)) := Lib.hid (isSgn_nomarks ⟨c, hc⟩ (fun i => hne.out i.val i.isLt))
      have HL : Hid (M.isLet c = decide (65 ≤ c ∧ c ≤ 90 ∨ 97 ≤ c ∧ c ≤ 122)) := Lib.hid rfl
      have HD : Hid (M.isDig c = decide (48 ≤ c ∧ c ≤ 57)) := Lib.hid rfl
      clear hne HIX hj hj8
      by_cases g0 : 122 < c
      · have d0 : decide ((97 : Int) ≤ c) = true := decide_eq_true (by omega)
        have d1 : decide ((c : Int) ≤ 122) = false := decide_eq_false (by omega)
        have d2 : decide ((65 : Int) ≤ c) = true := decide_eq_true (by omega)
        have d3 : decide ((c : Int) ≤ 90) = false := decide_eq_false (by omega)
        have d4 : decide ((48 : Int) ≤ c) = true := decide_eq_true (by omega)
        have d5 : decide ((c : Int) ≤ 57) = false := decide_eq_false (by omega)
        go_wp2
        go_ret
        exact ⟨M.ret_bool (by rw [HS.out, HL.out, HD.out, Bool.eq_iff_iff]; simp; omega), rfl⟩
      by_cases g1 : 97 ≤ c
      · have d0 : decide ((97 : Int) ≤ c) = true := decide_eq_true (by omega)
        have d1 : decide ((c : Int) ≤ 122) = true := decide_eq_true (by omega)
        have d2 : decide ((65 : Int) ≤ c) = true := decide_eq_true (by omega)
        have d3 : decide ((c : Int) ≤ 90) = false := decide_eq_false (by omega)
        have d4 : decide ((48 : Int) ≤ c) = true := decide_eq_true (by omega)
        have d5 : decide ((c : Int) ≤ 57) = false := decide_eq_false (by omega)
        go_wp2
        go_ret
        exact ⟨M.ret_bool (by rw [HS.out, HL.out, HD.out, Bool.eq_iff_iff]; simp; omega), rfl⟩
      by_cases g2 : 90 < c
      · have d0 : decide ((97 : Int) ≤ c) = false := decide_eq_false (by omega)
        have d1 : decide ((c : Int) ≤ 122) = true := decide_eq_true (by omega)
        have d2 : decide ((65 : Int) ≤ c) = true := decide_eq_true (by omega)
        have d3 : decide ((c : Int) ≤ 90) = false := decide_eq_false (by omega)
        have d4 : decide ((48 : Int) ≤ c) = true := decide_eq_true (by omega)
        have d5 : decide ((c : Int) ≤ 57) = false := decide_eq_false (by omega)
        go_wp2
        go_ret
        exact ⟨M.ret_bool (by rw [HS.out, HL.out, HD.out, Bool.eq_iff_iff]; simp; omega), rfl⟩
      by_cases g3 : 65 ≤ c
      · have d0 : decide ((97 : Int) ≤ c) = false := decide_eq_false (by omega)
        have d1 : decide ((c : Int) ≤ 122) = true := decide_eq_true (by omega)
        have d2 : decide ((65 : Int) ≤ c) = true := decide_eq_true (by omega)
        have d3 : decide ((c : Int) ≤ 90) = true := decide_eq_true (by omega)
        have d4 : decide ((48 : Int) ≤ c) = true := decide_eq_true (by omega)
        have d5 : decide ((c : Int) ≤ 57) = false := decide_eq_false (by omega)
        go_wp2
        go_ret
        exact ⟨M.ret_bool (by rw [HS.out, HL.out, HD.out, Bool.eq_iff_iff]; simp; omega), rfl⟩
      by_cases g4 : 57 < c
      · have d0 : decide ((97 : Int) ≤ c) = false := decide_eq_false (by omega)
        have d1 : decide ((c : Int) ≤ 122) = true := decide_eq_true (by omega)
        have d2 : decide ((65 : Int) ≤ c) = false := decide_eq_false (by omega)
        have d3 : decide ((c : Int) ≤ 90) = true := decide_eq_true (by omega)
        have d4 : decide ((48 : Int) ≤ c) = true := decide_eq_true (by omega)
        have d5 : decide ((c : Int) ≤ 57) = false := decide_eq_false (by omega)
        go_wp2
        go_ret
        exact ⟨M.ret_bool (by rw [HS.out, HL.out, HD.out, Bool.eq_iff_iff]; simp; omega), rfl⟩
      by_cases g5 : 48 ≤ c
      · have d0 : decide ((97 : Int) ≤ c) = false := decide_eq_false (by omega)
        have d1 : decide ((c : Int) ≤ 122) = true := decide_eq_true (by omega)
        have d2 : decide ((65 : Int) ≤ c) = false := decide_eq_false (by omega)
        have d3 : decide ((c : Int) ≤ 90) = true := decide_eq_true (by omega)
        have d4 : decide ((48 : Int) ≤ c) = true := decide_eq_true (by omega)
        have d5 : decide ((c : Int) ≤ 57) = true := decide_eq_true (by omega)
        go_wp2
        go_ret
        exact ⟨M.ret_bool (by rw [HS.out, HL.out, HD.out, Bool.eq_iff_iff]; simp; omega), rfl⟩
      have d0 : decide ((97 : Int) ≤ c) = false := decide_eq_false (by omega)
      have d1 : decide ((c : Int) ≤ 122) = true := decide_eq_true (by omega)
      have d2 : decide ((65 : Int) ≤ c) = false := decide_eq_false (by omega)
      have d3 : decide ((c : Int) ≤ 90) = true := decide_eq_true (by omega)
      have d4 : decide ((48 : Int) ≤ c) = false := decide_eq_false (by omega)
      have d5 : decide ((c : Int) ≤ 57) = true := decide_eq_true (by omega)
      go_wp2
      go_ret
      exact ⟨M.ret_bool (by rw [HS.out, HL.out, HD.out, Bool.eq_iff_iff]; simp; omega), rfl⟩
end Go.Proofs.YtjbcjcfmjagbkaaGreatDoor
