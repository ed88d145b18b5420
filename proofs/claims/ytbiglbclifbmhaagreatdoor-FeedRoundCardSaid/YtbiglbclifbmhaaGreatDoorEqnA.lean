/-
  Package eqn and the document's equation.
-/
import Derived.Test.YtbiglbclifbmhaaGreatDoorFixM
import Derived.Test.YtbiglbclifbmhaaGreatDoorEqnM
import Derived.Test.YtbiglbclifbmhaaGreatDoorBel
import Derived.Outline
namespace Go.Proofs.YtbiglbclifbmhaaGreatDoor
open Go.ChangeShapes Go.WideShapes Go.ChangeAt Go.RowKit
set_option linter.unusedVariables false
set_option linter.unusedSimpArgs false

theorem fixMulDiv_at (a b c q : Nat) (ha : a < 18446744073709551616) (hb : b < 18446744073709551616) (hc : c < 18446744073709551616) (h0 : 0 < c) (hq : a * b / c = q) (hq2 : q < 18446744073709551616) (w : World) :
    Calls Tryz.prog 69 #[.int .u64 a, .int .u64 b, .int .u64 c] w fun e w' => e = .returned (.int .u64 q) ∧ ∃ n, w' = w.drewN n :=
  (fixMulDiv_any a b c ha hb hc w).mono fun e w' ⟨h1, h2⟩ => ⟨by rw [h1, show M.mulDivT a b c = q by unfold M.mulDivT; rw [if_neg (by omega), hq, if_pos hq2]], h2⟩
theorem within_any (n m : Nat) (hn : n < 18446744073709551616) (hm : 1 ≤ m ∧ m < 18446744073709551616) (w : World) :
    Calls Tryz.prog 73 #[.int .u64 n, .int .u64 m] w fun e w' => e = .returned (.int .u64 (max 1 (min n m) : Nat)) ∧ w = w' := by
  obtain ⟨E, hE⟩ : ∃ E, min n m = E := ⟨_, rfl⟩
  obtain ⟨F, hF⟩ : ∃ F, max 1 E = F := ⟨_, rfl⟩
  have i1 : (if (m : Int) < (n : Int) then (m : Int) else (n : Int)) = (E : Int) := by split <;> omega
  have i2 : (if (1 : Int) < (E : Int) then (E : Int) else 1) = (F : Int) := by split <;> omega
  have i3 : min (n : Int) (m : Int) = (E : Int) := by omega
  have i4 : max (1 : Int) (E : Int) = (F : Int) := by omega
  rw [hE, hF]
  clear hE hF hn hm
  go_enter Tryz.func73, Tryz.ntmps73
  go_wp2
  go_ret
  exact ⟨rfl, rfl⟩

set_option maxHeartbeats 2000000 in
theorem eqnF_any (n : Nat) (hn : n < 18446744073709551616) (w : World) :
    Calls Tryz.prog 74 #[.int .u64 n] w fun e w' => e = .returned (.int .u64 (M.eqnF n)) ∧ ∃ k, w' = w.drewN k := by
  obtain ⟨N, hN⟩ : ∃ N, M.inLoss n = N := ⟨_, rfl⟩
  obtain ⟨hN1, hN2⟩ := M.inLoss_bd n
  have HF : Hid (M.eqnF n = M.eqF (M.inLoss n)) := Lib.hid rfl
  have HW : Hid (∀ W, Calls Tryz.prog 73 #[.int .u64 n, .int .u64 4294967296] W fun e w' => e = .returned (.int .u64 N) ∧ W = w') := Lib.hid (fun W => by
    have h := within_any n 4294967296 hn (by decide) W
    rw [show max 1 (min n 4294967296) = N from hN] at h
    exact h)
  rw [hN] at hN1 hN2 HF
  obtain ⟨k1, k2⟩ := M.eqA_bd N hN2
  obtain ⟨k3, k4⟩ := M.eqB_bd N hN2
  obtain ⟨k5, k6, k7⟩ := M.eqC_bd N hN2
  have k8 := M.eqD_bd N hN2
  have k9 := M.eqT_bd N hN2
  have e1 : M.isq (8589934592 * N / 3) = M.eqA N := rfl
  have e2 : M.isq (12884901888 * N / 8) = M.eqB N := rfl
  have e3 : M.eqC N = 4294967296 + 32 * N * N / 4294967296 := rfl
  have e4 : M.eqB N * N / 4294967296 = M.eqD N := rfl
  have e5 : M.eqF N = M.eqA N + 12 * (M.eqD N * M.eqC N / 4294967296) := rfl
  rw [e5] at HF
  have H1 := Lib.hid (fun W => fixMulDiv_at 8589934592 N 3 (8589934592 * N / 3) (by decide) (by omega) (by decide) (by decide) rfl k1 W)
  have H2 := Lib.hid (fun W => fixSqrt_any (8589934592 * N / 3) k1 W)
  have H3 := Lib.hid (fun W => fixMulDiv_at 12884901888 N 8 (12884901888 * N / 8) (by decide) (by omega) (by decide) (by decide) rfl k3 W)
  have H4 := Lib.hid (fun W => fixSqrt_any (12884901888 * N / 8) k3 W)
  have H5 := Lib.hid (fun W => fixMulDiv_at (32 * N) N 4294967296 (32 * N * N / 4294967296) (by omega) (by omega) (by decide) (by decide) rfl (by omega) W)
  have H6 := Lib.hid (fun W => fixMulDiv_at (M.eqB N) N 4294967296 (M.eqD N) (by omega) (by omega) (by decide) (by decide) e4 (by omega) W)
  have H7 := Lib.hid (fun W => fixMulDiv_at (M.eqD N) (M.eqC N) 4294967296 (M.eqD N * M.eqC N / 4294967296) (by omega) (by omega) (by decide) (by decide) rfl (by omega) W)
  rw [e1] at H2
  rw [e2] at H4
  rw [e3] at H7 k6 k7 HF k9
  generalize 8589934592 * N / 3 = a1 at *
  generalize 12884901888 * N / 8 = b1 at *
  generalize 32 * N * N / 4294967296 = c1 at *
  generalize M.eqA N = A at *
  generalize M.eqB N = B at *
  generalize M.eqD N = D at *
  generalize D * (4294967296 + c1) / 4294967296 = T at *
  obtain ⟨C, hC⟩ : ∃ C, 4294967296 + c1 = C := ⟨_, rfl⟩
  obtain ⟨N32, hN32⟩ : ∃ C, 32 * N = C := ⟨_, rfl⟩
  rw [hC] at H7 k6
  rw [hN32] at H5
  have i1 : (4294967296 : Int) + (c1 : Int) = (C : Int) := by omega
  have i2 : (32 : Int) * (N : Int) = (N32 : Int) := by omega
  have i3 : (N32 : Int) ≤ 137438953472 := by omega
  have G1 : Hid (∀ W, Calls Tryz.prog 69 #[.int .u64 8589934592, .int .u64 N, .int .u64 3] W fun e w' => e = .returned (.int .u64 a1) ∧ ∃ k, w' = W.drewN k) := H1
  have G3 : Hid (∀ W, Calls Tryz.prog 69 #[.int .u64 12884901888, .int .u64 N, .int .u64 8] W fun e w' => e = .returned (.int .u64 b1) ∧ ∃ k, w' = W.drewN k) := H3
  have G5 : Hid (∀ W, Calls Tryz.prog 69 #[.int .u64 N32, .int .u64 N, .int .u64 4294967296] W fun e w' => e = .returned (.int .u64 c1) ∧ ∃ k, w' = W.drewN k) := H5
  have G6 : Hid (∀ W, Calls Tryz.prog 69 #[.int .u64 B, .int .u64 N, .int .u64 4294967296] W fun e w' => e = .returned (.int .u64 D) ∧ ∃ k, w' = W.drewN k) := H6
  have G7 : Hid (∀ W, Calls Tryz.prog 69 #[.int .u64 D, .int .u64 C, .int .u64 4294967296] W fun e w' => e = .returned (.int .u64 T) ∧ ∃ k, w' = W.drewN k) := H7
  clear H1 H3 H5 H6 H7 e1 e2 e3 e4 e5 hC hN32 hN
  have A1 : (A : Int) < 4294967296 := by omega
  have T1 : (T : Int) ≤ 141733920768 := by omega
  go_enter Tryz.func74, Tryz.ntmps74
  go_wp2_with (first
    | (go_at_call 73; (with_reducible refine (HW.out _).mono ?_); rintro e w1 ⟨rfl, rfl⟩)
    | (go_at_call 69; (with_reducible refine (G1.out _).mono ?_); rintro e w1 ⟨rfl, k1, rfl⟩; clear G1)
    | (go_at_call 69; (with_reducible refine (G3.out _).mono ?_); rintro e w1 ⟨rfl, k2, rfl⟩; clear G3)
    | (go_at_call 69; (with_reducible refine (G5.out _).mono ?_); rintro e w1 ⟨rfl, k3, rfl⟩; clear G5)
    | (go_at_call 69; (with_reducible refine (G6.out _).mono ?_); rintro e w1 ⟨rfl, k4, rfl⟩; clear G6)
    | (go_at_call 69; (with_reducible refine (G7.out _).mono ?_); rintro e w1 ⟨rfl, k5, rfl⟩; clear G7)
    | (go_at_call 98; (with_reducible refine (H2.out _).mono ?_); rintro e w1 ⟨rfl, rfl⟩; clear H2)
    | (go_at_call 98; (with_reducible refine (H4.out _).mono ?_); rintro e w1 ⟨rfl, rfl⟩; clear H4))
  go_ret
  exact ⟨M.ret_int (by rw [HF.out]; omega), _, rfl⟩

set_option maxHeartbeats 2000000 in
theorem eqnRate_any (s r n : Nat) (hs : s < 18446744073709551616) (hr : r < 18446744073709551616) (hn : n < 18446744073709551616) (w : World) :
    Calls Tryz.prog 38 #[.int .u64 s, .int .u64 r, .int .u64 n] w fun e w' => e = .returned (.int .u64 (M.eqnRate s r n)) ∧ ∃ k, w' = w.drewN k := by
  have HS : Hid (∀ W, Calls Tryz.prog 73 #[.int .u64 s, .int .u64 65535] W fun e w' => e = .returned (.int .u64 (M.inBytes s : Nat)) ∧ W = w') := Lib.hid (fun W => within_any s 65535 hs (by decide) W)
  have HT : Hid (∀ W, Calls Tryz.prog 73 #[.int .u64 r, .int .u64 4294967296] W fun e w' => e = .returned (.int .u64 (M.inTime r : Nat)) ∧ W = w') := Lib.hid (fun W => within_any r 4294967296 hr (by decide) W)
  have HF := Lib.hid (fun W => eqnF_any n hn W)
  have hfits := M.rate_fits (M.inBytes s) (M.inLoss n) (M.inBytes_bd s).2 (M.inLoss_bd n).1 (M.inLoss_bd n).2
  have hF1 := M.eqF_ge (M.inLoss n) (M.inLoss_bd n).1 (M.inLoss_bd n).2
  have hF2 := M.eqF_bd (M.inLoss n) (M.inLoss_bd n).2
  obtain ⟨s1, s2⟩ := M.inBytes_bd s
  obtain ⟨t1, t2⟩ := M.inTime_bd r
  have HR : Hid (M.eqnRate s r n = 64000000 * M.inBytes s * 4294967296 / M.eqnF n / M.inTime r) := Lib.hid (by simp only [M.eqnRate, M.eqRate, M.eqnF])
  rw [show M.eqF (M.inLoss n) = M.eqnF n from rfl] at hfits hF1 hF2
  generalize M.inBytes s = S at *
  generalize M.inTime r = T at *
  generalize M.eqnF n = F at *
  obtain ⟨S64, hS64⟩ : ∃ S64, 64000000 * S = S64 := ⟨_, rfl⟩
  have i1 : (64000000 : Int) * (S : Int) = (S64 : Int) := by omega
  have i2 : (S64 : Int) ≤ 4194240000000 := by omega
  rw [hS64] at HR hfits
  obtain ⟨Q, hQ⟩ : ∃ Q, S64 * 4294967296 / F = Q := ⟨_, rfl⟩
  have HM : Hid (∀ W, Calls Tryz.prog 69 #[.int .u64 S64, .int .u64 4294967296, .int .u64 F] W fun e w' => e = .returned (.int .u64 Q) ∧ ∃ k, w' = W.drewN k) :=
    Lib.hid (fun W => fixMulDiv_at S64 4294967296 F Q (by omega) (by decide) (by omega) (by omega) hQ (by omega) W)
  rw [hQ] at HR hfits
  obtain ⟨q, hq⟩ : ∃ q, Q / T = q := ⟨_, rfl⟩
  have hq2 : (q : Int) < 18446744073709551616 := by have := Nat.div_le_self Q T; omega
  have i3 : (Q : Int) / (T : Int) = (q : Int) := by rw [← hq]; simp
  have hz : ((T : Int) == 0) = false := by rw [beq_eq_false_iff_ne]; omega
  have hz2 : ¬ (T = 0) := by omega
  rw [hq] at HR
  clear hQ hq hS64 s1 t1 hF1 hF2
  go_enter Tryz.func38, Tryz.ntmps38
  go_wp2_with (first
    | (go_at_call 73; (with_reducible refine (HS.out _).mono ?_); rintro e w1 ⟨rfl, rfl⟩; clear HS)
    | (go_at_call 73; (with_reducible refine (HT.out _).mono ?_); rintro e w1 ⟨rfl, rfl⟩; clear HT)
    | (go_at_call 74; (with_reducible refine (HF.out _).mono ?_); rintro e w1 ⟨rfl, k1, rfl⟩; clear HF)
    | (go_at_call 69; (with_reducible refine (HM.out _).mono ?_); rintro e w1 ⟨rfl, k2, rfl⟩; clear HM))
  go_ret
  exact ⟨M.ret_int (by rw [HR.out]), _, rfl⟩
end Go.Proofs.YtbiglbclifbmhaaGreatDoor
