/-
  More laws on package fix, walked: the order of its answers and its halves.
-/
import Derived.Test.YtagnbggldpjncaaGreatDoorLawFix
namespace Go.Proofs.YtagnbggldpjncaaGreatDoor
open Go.ChangeShapes Go.WideShapes Go.ChangeAt Go.RowKit
set_option linter.unusedVariables false

theorem add_mono (a x b : Nat) (h : a ≤ x) : M.addT a b ≤ M.addT x b := by unfold M.addT; split <;> split <;> omega
theorem mul_mono (a x b : Nat) (h : a ≤ x) : M.mulT a b ≤ M.mulT x b := by
  have := Nat.mul_le_mul_right b h
  unfold M.mulT; split <;> split <;> omega
theorem muldiv_mono (a x b c : Nat) (h : a ≤ x) : M.mulDivT a b c ≤ M.mulDivT x b c := by
  have := Nat.div_le_div_right (c := c) (Nat.mul_le_mul_right b h)
  unfold M.mulDivT; repeat' split
  all_goals omega
theorem muldiv_anti (a b c d : Nat) (h0 : 0 < c) (h : c ≤ d) : M.mulDivT a b d ≤ M.mulDivT a b c := by
  have := Nat.div_le_div_left (a := a * b) h h0
  unfold M.mulDivT; repeat' split
  all_goals omega
theorem isq_mono (m n : Nat) (hn : n < 18446744073709551616 * 18446744073709551616) (h : m ≤ n) : M.isq m ≤ M.isq n := by
  apply Nat.le_of_not_lt; intro hl
  have h1 := (M.isq_spec m (by omega)).1
  have h2 := (M.isq_spec n hn).2
  have := Nat.mul_le_mul (show M.isq n + 1 ≤ M.isq m from hl) (show M.isq n + 1 ≤ M.isq m from hl)
  omega

theorem run_max_int3 (P : Program) (w : World) (ts : Array TypeId) (t : TypeId) (k k' k'' : IntKind) (x y z : Int) : (Builtin.max_ ts t #[.int k x, .int k' y, .int k'' z]).run P w = .ok (.int k (max (max x y) z)) w := by
  simp only [Builtin.max_, List.foldlM, Builtin.max2]
  simp
  omega

attribute [local irreducible] M.isq M.mulDivT M.addT M.mulT
set_option maxHeartbeats 800000 in
theorem fixOrder_walk (a b c d : Nat) (ha : a < 18446744073709551616) (hb : b < 18446744073709551616) (hc : c < 18446744073709551616) (hd : d < 18446744073709551616) (w : World) :
    Calls Tryz.prog 12 #[.int .u64 a, .int .u64 b, .int .u64 c, .int .u64 d] w fun e w' => e = .returned (.bool true) ∧ Below w.heap.size w w' := by
  obtain ⟨x, hx⟩ : ∃ x, max a d = x := ⟨_, rfl⟩
  obtain ⟨y, hy⟩ : ∃ y, max (max c d) 1 = y := ⟨_, rfl⟩
  obtain ⟨z, hz⟩ : ∃ z, max c 1 = z := ⟨_, rfl⟩
  have hxi : max (a : Int) (d : Int) = (x : Int) := by omega
  have hyi : max (c : Int) (max (d : Int) 1) = (y : Int) := by omega
  have hzi : max (c : Int) 1 = (z : Int) := by omega
  have hxl : x < 18446744073709551616 := by omega
  have hyl : y < 18446744073709551616 := by omega
  have hzl : z < 18446744073709551616 := by omega
  have hax : a ≤ x := by omega
  have hzy : z ≤ y := by omega
  have hz0 : 0 < z := by omega
  have hxb := Nat.mul_le_mul (show x ≤ 18446744073709551615 by omega) (show b ≤ 18446744073709551615 by omega)
  have o1 : decide (((M.addT a b : Nat) : Int) ≤ ((M.addT x b : Nat) : Int)) = true := decide_eq_true (Int.ofNat_le.2 (add_mono a x b hax))
  have o2 : decide (((M.mulT a b : Nat) : Int) ≤ ((M.mulT x b : Nat) : Int)) = true := decide_eq_true (Int.ofNat_le.2 (mul_mono a x b hax))
  have o3 : decide (((M.isq a : Nat) : Int) ≤ ((M.isq x : Nat) : Int)) = true := decide_eq_true (Int.ofNat_le.2 (isq_mono a x (by omega) hax))
  have o4 : decide (((M.isq (a * b) : Nat) : Int) ≤ ((M.isq (x * b) : Nat) : Int)) = true := decide_eq_true (Int.ofNat_le.2 (isq_mono _ _ (by omega) (Nat.mul_le_mul_right b hax)))
  have o5 : decide (((a - b : Nat) : Int) ≤ ((x - b : Nat) : Int)) = true := decide_eq_true (by omega)
  have o6 : decide (((M.mulDivT a b c : Nat) : Int) ≤ ((M.mulDivT x b c : Nat) : Int)) = true := decide_eq_true (Int.ofNat_le.2 (muldiv_mono a x b c hax))
  have o7 : decide (((M.mulDivT a b y : Nat) : Int) ≤ ((M.mulDivT a b z : Nat) : Int)) = true := decide_eq_true (Int.ofNat_le.2 (muldiv_anti a b z y hz0 hzy))
  have A1 := Lib.hid (fun w => fixSum_any x b hxl hb w)
  have A2 := Lib.hid (fun w => fixSum_any a b ha hb w)
  have A3 := Lib.hid (fun w => fixMul_any x b hxl hb w)
  have A4 := Lib.hid (fun w => fixMul_any a b ha hb w)
  have A5 := Lib.hid (fun w => fixSqrt_any x hxl w)
  have A6 := Lib.hid (fun w => fixSqrt_any a ha w)
  have A7 := Lib.hid (fun w => fixSqrtMul_any x b hxl hb w)
  have A8 := Lib.hid (fun w => fixSqrtMul_any a b ha hb w)
  have B1 := Lib.hid (fun w => fixSub_any x b hxl hb w)
  have B2 := Lib.hid (fun w => fixSub_any a b ha hb w)
  have B3 := Lib.hid (fun w => fixMulDiv_any x b c hxl hb hc w)
  have B4 := Lib.hid (fun w => fixMulDiv_any a b c ha hb hc w)
  have B5 := Lib.hid (fun w => fixMulDiv_any a b y ha hb hyl w)
  have B6 := Lib.hid (fun w => fixMulDiv_any a b z ha hb hzl w)
  generalize ((M.addT a b : Nat) : Int) = v1 at *
  generalize ((M.addT x b : Nat) : Int) = v2 at *
  generalize ((M.mulT a b : Nat) : Int) = v3 at *
  generalize ((M.mulT x b : Nat) : Int) = v4 at *
  generalize ((M.isq (a * b) : Nat) : Int) = v7 at *
  generalize ((M.isq (x * b) : Nat) : Int) = v8 at *
  generalize ((M.isq a : Nat) : Int) = v5 at *
  generalize ((M.isq x : Nat) : Int) = v6 at *
  generalize ((a - b : Nat) : Int) = v9 at *
  generalize ((x - b : Nat) : Int) = v10 at *
  generalize ((M.mulDivT a b c : Nat) : Int) = v11 at *
  generalize ((M.mulDivT x b c : Nat) : Int) = v12 at *
  generalize ((M.mulDivT a b y : Nat) : Int) = v13 at *
  generalize ((M.mulDivT a b z : Nat) : Int) = v14 at *
  have HX := Lib.hid hxi; have HY := Lib.hid hyi; have HZ := Lib.hid hzi
  clear hx hy hz hxi hyi hzi hxb hax hzy hz0
  go_enter Tryz.func12, Tryz.ntmps12
  go_wp2_with fail
  refine (begun_any _).mono ?_
  rintro e w0 ⟨rfl, hb0⟩
  go_wp2_with fail
  simp only [HX.out]
  refine (A1.out _).mono ?_
  rintro e w1 ⟨rfl, rfl⟩
  go_wp2_with fail
  refine (A2.out _).mono ?_
  rintro e w1 ⟨rfl, rfl⟩
  go_wp2_with fail
  refine (A3.out _).mono ?_
  rintro e w1 ⟨rfl, rfl⟩
  go_wp2_with fail
  refine (A4.out _).mono ?_
  rintro e w1 ⟨rfl, rfl⟩
  go_wp2_with fail
  refine (A5.out _).mono ?_
  rintro e w1 ⟨rfl, rfl⟩
  go_wp2_with fail
  refine (A6.out _).mono ?_
  rintro e w1 ⟨rfl, rfl⟩
  go_wp2_with fail
  refine (A7.out _).mono ?_
  rintro e w1 ⟨rfl, rfl⟩
  go_wp2_with fail
  refine (A8.out _).mono ?_
  rintro e w1 ⟨rfl, rfl⟩
  go_wp2_with fail
  refine (B1.out _).mono ?_
  rintro e w1 ⟨rfl, rfl⟩
  go_wp2_with fail
  refine (B2.out _).mono ?_
  rintro e w1 ⟨rfl, rfl⟩
  go_wp2_with fail
  refine (B3.out _).mono ?_
  rintro e w1 ⟨rfl, n1, rfl⟩
  go_wp2_with fail
  refine (B4.out _).mono ?_
  rintro e w1 ⟨rfl, n2, rfl⟩
  go_wp2_with fail
  rw [run_max_int3]
  go_wp2_with fail
  simp only [HY.out]
  refine (B5.out _).mono ?_
  rintro e w1 ⟨rfl, n3, rfl⟩
  go_wp2_with fail
  simp only [HZ.out]
  refine (B6.out _).mono ?_
  rintro e w1 ⟨rfl, n4, rfl⟩
  go_wp2_with fail
  go_ret
  exact ⟨by first | rfl | simp, bel_trans hb0 (bel_drewN _ _)⟩

theorem halves_eq (a b c d : Nat) (hm : M.mulDivT a b c ≠ 18446744073709551615) (hd : 0 < d) : M.mulDivT a b (c * d) = M.mulDivT a b c / d := by
  unfold M.mulDivT at hm ⊢
  by_cases h0 : c = 0
  · rw [if_pos h0] at hm; omega
  rw [if_neg h0] at hm ⊢
  have hq : a * b / c < 18446744073709551616 := by
    by_cases h : a * b / c < 18446744073709551616
    · exact h
    · rw [if_neg h] at hm; omega
  have hcd : ¬ c * d = 0 := by intro h; rcases Nat.mul_eq_zero.1 h with h | h <;> omega
  have hqd : a * b / c / d ≤ a * b / c := Nat.div_le_self _ _
  rw [if_pos hq, if_neg hcd, ← Nat.div_div_eq_div_mul, if_pos (by omega)]


end Go.Proofs.YtagnbggldpjncaaGreatDoor
