/-
  The law FixEdges, walked.
-/
import Derived.Test.YtagnbggldpjncaaGreatDoorLawFix2
import Derived.Deep.QuietTactic
import Derived.BigQuiet
import Derived.Deep.Cut
import Derived.Deep.DeepCutAuto
import Derived.Test.YtagnbggldpjncaaGreatDoorLawSeq
namespace Go.Proofs.YtagnbggldpjncaaGreatDoor
open Go.ChangeShapes Go.WideShapes Go.ChangeAt Go.RowKit
set_option linter.unusedVariables false

theorem muldiv_by (x y : Nat) (hy : 0 < y) (hx : x < 18446744073709551616) : M.mulDivT x y y = x := by
  unfold M.mulDivT
  rw [if_neg (by omega), Nat.mul_div_cancel _ hy, if_pos hx]
theorem muldiv_one (x a : Nat) : M.mulDivT x a 1 = M.mulT x a := by
  unfold M.mulDivT M.mulT
  rw [if_neg (by omega), Nat.div_one]
theorem add_top (a : Nat) (ha : a ≤ 18446744073709551615) : M.addT (18446744073709551615 - a) a = 18446744073709551615 := by
  unfold M.addT; rw [if_pos (by omega)]; omega
theorem mul_pow (k j : Nat) : M.mulT (2 ^ k) (2 ^ j) = if k + j < 64 then 2 ^ (k + j) else 18446744073709551615 := by
  unfold M.mulT
  rw [← Nat.pow_add]
  by_cases h : k + j < 64
  · rw [if_pos h, if_pos (Nat.pow_lt_pow_right (a := 2) (by decide) h)]
  · rw [if_neg h, if_neg (by
      have := Nat.pow_le_pow_right (n := 2) (by decide) (show 64 ≤ k + j by omega)
      have e : (2 : Nat) ^ 64 = 18446744073709551616 := rfl
      omega)]
theorem pow_lt64 (k : Nat) (h : k < 64) : 0 < 2 ^ k ∧ 2 ^ k < 18446744073709551616 :=
  ⟨Nat.pow_pos (by decide), Nat.pow_lt_pow_right (a := 2) (by decide) h⟩

set_option maxHeartbeats 800000 in
set_option maxRecDepth 100000 in
theorem fixEdges_walk (k j : Int) (a : Nat) (h2 : -9223372036854775808 ≤ k) (h3 : k ≤ 9223372036854775807) (h4 : -9223372036854775808 ≤ j) (h5 : j ≤ 9223372036854775807) (ha : a < 18446744073709551616) (w : World) :
    Calls Tryz.prog 9 #[.int .i64 k, .int .i64 j, .int .u64 a] w fun e w' => e = .returned (.bool true) ∧ Below w.heap.size w w' := by
  obtain ⟨m1, m2⟩ := tmod_in k 64 (by decide)
  obtain ⟨m3, m4⟩ := tmod_in j 64 (by decide)
  obtain ⟨k1, hk⟩ : ∃ k1, k.tmod 64 = k1 := ⟨_, rfl⟩
  obtain ⟨j1, hj⟩ : ∃ j1, j.tmod 64 = j1 := ⟨_, rfl⟩
  rw [hk] at m1 m2
  rw [hj] at m3 m4
  obtain ⟨K, hK⟩ := Int.eq_ofNat_of_zero_le (show 0 ≤ (k1 + 64) % 64 by omega)
  obtain ⟨J, hJ⟩ := Int.eq_ofNat_of_zero_le (show 0 ≤ (j1 + 64) % 64 by omega)
  have hKl : K < 64 := by omega
  have hJl : J < 64 := by omega
  have bK := M.bit_wrap K hKl
  have bJ := M.bit_wrap J hJl
  obtain ⟨pK0, pK1⟩ := pow_lt64 K hKl
  obtain ⟨pJ0, pJ1⟩ := pow_lt64 J hJl
  have hmp := mul_pow K J
  have bKJ := fun h : K + J < 64 => M.bit_wrap (K + J) h
  obtain ⟨W, hW⟩ : ∃ W : Nat, (if K + J < 64 then 2 ^ (K + J) else 18446744073709551615) = W := ⟨_, rfl⟩
  rw [hW] at hmp
  obtain ⟨X, hX⟩ : ∃ X : Nat, 2 ^ K = X := ⟨_, rfl⟩
  obtain ⟨Y, hY⟩ : ∃ Y : Nat, 2 ^ J = Y := ⟨_, rfl⟩
  have hXi : (2 : Int) ^ K = (X : Int) := by rw [← hX]; simp
  have hYi : (2 : Int) ^ J = (Y : Int) := by rw [← hY]; simp
  rw [hX] at pK0 pK1 hmp bK
  rw [hY] at pJ0 pJ1 hmp bJ
  rw [hXi] at bK
  rw [hYi] at bJ
  have HMU := Lib.hid (fun w => fixMul_any X Y pK1 pJ1 w)
  rw [hmp] at HMU
  have HAD : Hid (∀ w, Calls Tryz.prog 16 #[.int .u64 (18446744073709551615 - (a : Int)), .int .u64 a] w fun e w' => e = .returned (.int .u64 18446744073709551615) ∧ w = w') := Lib.hid (fun w => by
    have h := fixSum_any (18446744073709551615 - a) a (by omega) ha w
    rw [add_top a (by omega)] at h
    rw [show (18446744073709551615 - (a : Int)) = ((18446744073709551615 - a : Nat) : Int) by omega]
    exact h)
  have HSU : Hid (∀ w, Calls Tryz.prog 18 #[.int .u64 a, .int .u64 18446744073709551615] w fun e w' => e = .returned (.int .u64 0) ∧ w = w') := Lib.hid (fun w => by
    have h := fixSub_any a 18446744073709551615 ha (by decide) w
    rw [show a - 18446744073709551615 = 0 by omega] at h
    exact h)
  have HM1 := Lib.hid (fun w => fixMulDiv_any X Y Y pK1 pJ1 pJ1 w)
  rw [muldiv_by X Y pJ0 pK1] at HM1
  have HM2 : Hid (∀ w, Calls Tryz.prog 22 #[.int .u64 X, .int .u64 a, .int .u64 1] w fun e w' => e = .returned (.int .u64 (M.mulT X a)) ∧ ∃ n, w' = w.drewN n) := Lib.hid (fun w => by
    have h := fixMulDiv_any X a 1 pK1 ha (by decide) w
    rw [muldiv_one] at h
    exact h)
  have HMA := Lib.hid (fun w => fixMul_any X a pK1 ha w)
  have HSQ := Lib.hid (fun w => fixSqrtMul_any X X pK1 pK1 w)
  rw [isq_self X pK1] at HSQ
  have HM3 : Hid (0 < a → ∀ w, Calls Tryz.prog 22 #[.int .u64 a, .int .u64 a, .int .u64 a] w fun e w' => e = .returned (.int .u64 a) ∧ ∃ n, w' = w.drewN n) := Lib.hid (fun h0 w => by
    have h := fixMulDiv_any a a a ha ha ha w
    rw [muldiv_by a a h0 ha] at h
    exact h)
  generalize M.mulT X a = q at *
  have hKJ : (K + J < 64 ∧ 2 ^ (K + J) = W) ∨ (¬ K + J < 64 ∧ 18446744073709551615 = W) := by
    by_cases h : K + J < 64
    · rw [if_pos h] at hW; exact .inl ⟨h, hW⟩
    · rw [if_neg h] at hW; exact .inr ⟨h, hW⟩
  have ha0 : ((a : Int) == 0) = true ∨ (((a : Int) == 0) = false ∧ 0 < a) := by
    by_cases h : a = 0
    · exact .inl (by rw [h]; rfl)
    · exact .inr ⟨by rw [beq_eq_false_iff_ne]; omega, by omega⟩
  clear hW hX hY hmp
  rcases hKJ with ⟨h1, h2⟩ | ⟨h1, rfl⟩
  · have hd := decide_eq_true (p := (K : Int) + (J : Int) < 64) (by omega)
    have bW := bKJ h1
    have hWi : (2 : Int) ^ (K + J) = (W : Int) := by rw [← h2]; simp
    rw [h2, hWi] at bW
    clear h2 bKJ
    rcases ha0 with ha1 | ⟨ha1, ha2⟩
    all_goals (
      go_enter Tryz.func9, Tryz.ntmps9
      go_upto_region 5 with (go_at_call 15; refine (begun_any _).mono ?_; rintro e w0 ⟨rfl, hb0⟩)
      go_quiet (fail)
      have hb1 := bel_trans hb0 (bel_drewN w0 nq)
      generalize w0.drewN nq = W1 at *
      go_wp2_with (first
        | (go_at_call 20; (first | (with_reducible refine (HMU.out _).mono ?_) | (with_reducible refine (HMA.out _).mono ?_)); rintro e w1 ⟨rfl, rfl⟩)
        | (go_at_call 16; (with_reducible refine (HAD.out _).mono ?_); rintro e w1 ⟨rfl, rfl⟩)
        | (go_at_call 18; (with_reducible refine (HSU.out _).mono ?_); rintro e w1 ⟨rfl, rfl⟩)
        | (go_at_call 26; (with_reducible refine (HSQ.out _).mono ?_); rintro e w1 ⟨rfl, rfl⟩)
        | (go_at_call 22; (first | (with_reducible refine (HM1.out _).mono ?_) | (with_reducible refine (HM2.out _).mono ?_) | (with_reducible refine (HM3.out ha2 _).mono ?_)); rintro e w1 ⟨rfl, n1, rfl⟩))
      go_ret
      exact ⟨rfl, by first | exact hb1.drewN _ | exact bel_trans hb1 (bel_drewN _ _) | exact bel_trans (bel_trans hb1 (bel_drewN _ _)) (bel_drewN _ _) | exact bel_trans (bel_trans (bel_trans hb1 (bel_drewN _ _)) (bel_drewN _ _)) (bel_drewN _ _)⟩)
  · have hd := decide_eq_false (p := (K : Int) + (J : Int) < 64) (by omega)
    clear bKJ
    have h64 : ((18446744073709551615 : Nat) : Int) = 18446744073709551615 := rfl
    rw [h64] at HMU
    clear h64
    rcases ha0 with ha1 | ⟨ha1, ha2⟩
    all_goals (
      go_enter Tryz.func9, Tryz.ntmps9
      go_upto_region 5 with (go_at_call 15; refine (begun_any _).mono ?_; rintro e w0 ⟨rfl, hb0⟩)
      go_quiet (fail)
      have hb1 := bel_trans hb0 (bel_drewN w0 nq)
      generalize w0.drewN nq = W1 at *
      go_wp2_with (first
        | (go_at_call 20; (first | (with_reducible refine (HMU.out _).mono ?_) | (with_reducible refine (HMA.out _).mono ?_)); rintro e w1 ⟨rfl, rfl⟩)
        | (go_at_call 16; (with_reducible refine (HAD.out _).mono ?_); rintro e w1 ⟨rfl, rfl⟩)
        | (go_at_call 18; (with_reducible refine (HSU.out _).mono ?_); rintro e w1 ⟨rfl, rfl⟩)
        | (go_at_call 26; (with_reducible refine (HSQ.out _).mono ?_); rintro e w1 ⟨rfl, rfl⟩)
        | (go_at_call 22; (first | (with_reducible refine (HM1.out _).mono ?_) | (with_reducible refine (HM2.out _).mono ?_) | (with_reducible refine (HM3.out ha2 _).mono ?_)); rintro e w1 ⟨rfl, n1, rfl⟩))
      go_ret
      exact ⟨rfl, by first | exact hb1.drewN _ | exact bel_trans hb1 (bel_drewN _ _) | exact bel_trans (bel_trans hb1 (bel_drewN _ _)) (bel_drewN _ _) | exact bel_trans (bel_trans (bel_trans hb1 (bel_drewN _ _)) (bel_drewN _ _)) (bel_drewN _ _)⟩)
end Go.Proofs.YtagnbggldpjncaaGreatDoor
