/-
  The law FixHalves, walked.
-/
import Derived.Test.YtagnbggldpjncaaGreatDoorLawFix2
import Derived.Deep.RegionHeld3
import Derived.Deep.QuietTactic
import Derived.BigQuiet
import Derived.Deep.Cut
import Derived.Deep.DeepCutAuto
namespace Go.Proofs.YtagnbggldpjncaaGreatDoor
open Go.ChangeShapes Go.WideShapes Go.ChangeAt Go.RowKit
set_option linter.unusedVariables false

set_option maxHeartbeats 800000 in
set_option maxRecDepth 100000 in
theorem fixHalves_walk (a b c d : Nat) (ha : a < 18446744073709551616) (hb : b < 18446744073709551616) (hc : c < 4294967296) (hd : d < 4294967296) (w : World) :
    Calls Tryz.prog 13 #[.int .u64 a, .int .u64 b, .int .u32 c, .int .u32 d] w fun e w' => e = .returned (.bool true) ∧ Below w.heap.size w w' := by
  have ha2 : a / 256 < 18446744073709551616 := by omega
  have hb2 : b % 72057594037927936 < 18446744073709551616 := by omega
  have HM := Lib.hid (fun w => fixMulDiv_any (a / 256) (b % 72057594037927936) (c + 1) ha2 hb2 (by omega) w)
  have ha3 : (a : Int) / 256 = ((a / 256 : Nat) : Int) := by simp
  have hb3 : (b : Int) % 72057594037927936 = ((b % 72057594037927936 : Nat) : Int) := by simp
  rw [← ha3, ← hb3] at HM
  rw [show ((c + 1 : Nat) : Int) = (c : Int) + 1 by simp] at HM
  have hml : M.mulDivT (a / 256) (b % 72057594037927936) (c + 1) ≤ 18446744073709551615 := by unfold M.mulDivT; split <;> (try split) <;> omega
  have heq := halves_eq (a / 256) (b % 72057594037927936) (c + 1) (d + 1)
  by_cases ht : M.mulDivT (a / 256) (b % 72057594037927936) (c + 1) = 18446744073709551615
  · have htb : (((M.mulDivT (a / 256) (b % 72057594037927936) (c + 1) : Nat) : Int) == 18446744073709551615) = true := by rw [ht]; rfl
    generalize M.mulDivT (a / 256) (b % 72057594037927936) (c + 1) = m at *
    clear ha3 hb3 heq ht
    go_enter Tryz.func13, Tryz.ntmps13
    go_wp2_with (first
      | (go_at_call 15; refine (begun_any _).mono ?_; rintro e w0 ⟨rfl, hb0⟩)
      | (go_at_call 22; (with_reducible refine (HM.out _).mono ?_); rintro e w1 ⟨rfl, n, rfl⟩))
    go_ret
    exact ⟨rfl, bel_trans hb0 (bel_drewN _ _)⟩
  · have heq := heq ht (by omega)
    have htb : (((M.mulDivT (a / 256) (b % 72057594037927936) (c + 1) : Nat) : Int) == 18446744073709551615) = false := by rw [beq_eq_false_iff_ne]; omega
    -- the product of the two divisors, wrapped
    obtain ⟨P, hP⟩ : ∃ P : Nat, IntKind.u64.wrap (((c : Int) + 1) * ((d : Int) + 1)) = (P : Int) ∧ P < 18446744073709551616 ∧ (P = (c + 1) * (d + 1) ∨ (c + 1) * (d + 1) = 18446744073709551616 ∧ P = 0) := by
      have hle := Nat.mul_le_mul (show c + 1 ≤ 4294967296 by omega) (show d + 1 ≤ 4294967296 by omega)
      have e : (((c : Int) + 1) * ((d : Int) + 1)) = ((c + 1 : Nat) : Int) * ((d + 1 : Nat) : Int) := by simp
      rw [e]
      by_cases hl : (c + 1) * (d + 1) < 18446744073709551616
      · exact ⟨(c + 1) * (d + 1), M.u64_mul _ _ hl, hl, .inl rfl⟩
      · have h1 : (c + 1) * (d + 1) = 18446744073709551616 := by omega
        rw [← Int.natCast_mul, h1]
        exact ⟨0, by decide +kernel, by omega, .inr ⟨rfl, rfl⟩⟩
    obtain ⟨hPw, hPl, hPor⟩ := hP
    have HM2 := Lib.hid (fun w => fixMulDiv_any (a / 256) (b % 72057594037927936) P ha2 hb2 hPl w)
    rw [← ha3, ← hb3] at HM2
    have hm2 : (M.mulDivT (a / 256) (b % 72057594037927936) (c + 1) / (d + 1) = M.mulDivT (a / 256) (b % 72057594037927936) P) ∨ (P = 0 ∧ M.mulDivT (a / 256) (b % 72057594037927936) P = 18446744073709551615) := by
      rcases hPor with h | ⟨_, h⟩
      · left; rw [h, heq]
      · right; exact ⟨h, by rw [h]; rfl⟩
    have hql : M.mulDivT (a / 256) (b % 72057594037927936) (c + 1) / (d + 1) ≤ M.mulDivT (a / 256) (b % 72057594037927936) (c + 1) := Nat.div_le_self _ _
    have hqw := M.u64_quo (M.mulDivT (a / 256) (b % 72057594037927936) (c + 1)) (d + 1) (by omega)
    rw [show ((d + 1 : Nat) : Int) = (d : Int) + 1 by simp] at hqw
    generalize M.mulDivT (a / 256) (b % 72057594037927936) (c + 1) = m at *
    generalize M.mulDivT (a / 256) (b % 72057594037927936) P = m2 at *
    generalize hv : m / (d + 1) = v at *
    have hvw : (m : Int) / ((d : Int) + 1) = (v : Int) := by rw [← hv]; simp
    have hdz : (((d : Int) + 1) == 0) = false := by rw [beq_eq_false_iff_ne]; omega
    clear heq hPor hv ha3 hb3
    rcases hm2 with hv2 | ⟨hP0, hv2⟩
    · have hve : ((v : Int) == (m2 : Int)) = true := by rw [hv2]; simp
      clear hv2
      go_enter Tryz.func13, Tryz.ntmps13
      go_upto_region 9 with (first
        | (go_at_call 15; refine (begun_any _).mono ?_; rintro e w0 ⟨rfl, hb0⟩)
        | (go_at_call 22; (with_reducible refine (HM.out _).mono ?_); rintro e w1 ⟨rfl, n, rfl⟩))
      have hb9 := bel_trans hb0 (bel_drewN w0 n)
      generalize w0.drewN n = W9 at *
      go_quiet ((go_at_call 22; first | (with_reducible exact Calls.quiet_of (HM.out _)) | (with_reducible exact Calls.quiet_of (HM2.out _))))
      go_wp2
      go_ret
      exact ⟨rfl, bel_trans hb9 (bel_drewN _ _)⟩
    · have hve : ((v : Int) == (m2 : Int)) = false := by rw [beq_eq_false_iff_ne]; omega
      have hlt : decide ((P : Int) < (c : Int) + 1) = true := decide_eq_true (by omega)
      clear hv2 hP0
      go_enter Tryz.func13, Tryz.ntmps13
      go_upto_region 9 with (first
        | (go_at_call 15; refine (begun_any _).mono ?_; rintro e w0 ⟨rfl, hb0⟩)
        | (go_at_call 22; (with_reducible refine (HM.out _).mono ?_); rintro e w1 ⟨rfl, n, rfl⟩))
      have hb9 := bel_trans hb0 (bel_drewN w0 n)
      generalize w0.drewN n = W9 at *
      go_quiet ((go_at_call 22; first | (with_reducible exact Calls.quiet_of (HM.out _)) | (with_reducible exact Calls.quiet_of (HM2.out _))))
      go_wp2
      go_ret
      exact ⟨rfl, bel_trans hb9 (bel_drewN _ _)⟩
end Go.Proofs.YtagnbggldpjncaaGreatDoor
