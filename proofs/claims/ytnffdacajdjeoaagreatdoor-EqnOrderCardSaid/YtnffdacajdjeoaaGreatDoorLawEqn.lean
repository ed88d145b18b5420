/-
  The laws EqnAll, EqnOrder, EqnTrue, walked.
-/
import Derived.Test.YtnffdacajdjeoaaGreatDoorEqnA
import Derived.Test.YtnffdacajdjeoaaGreatDoorBegun8
namespace Go.Proofs.YtnffdacajdjeoaaGreatDoor
open Go.ChangeShapes Go.WideShapes Go.ChangeAt Go.RowKit
set_option linter.unusedVariables false
set_option linter.unusedSimpArgs false

theorem eqnF_lt (n : Nat) : M.eqnF n < 18446744073709551616 := by have := M.eqF_bd (M.inLoss n) (M.inLoss_bd n).2; unfold M.eqnF; omega
set_option maxHeartbeats 1000000 in
theorem eqnAll_walk (s r n : Nat) (hs : s < 18446744073709551616) (hr : r < 18446744073709551616) (hn : n < 18446744073709551616) (w : World) (hT : TabW w) :
    Calls Tryz.prog 7 #[.int .u64 s, .int .u64 r, .int .u64 n] w fun e w' => e = .returned (.bool true) ∧ Below w.heap.size w w' := by
  have HBG : Hid (∀ W, Below w.heap.size w W → Calls Tryz.prog 18 #[] W fun e w' => e = .returned (.bool true) ∧ Below W.heap.size W w') := Lib.hid (fun W hb => begun8_any W (hT.below hb))
  clear hT
  have H1 := Lib.hid (fun W => eqnF_any n hn W)
  have H2 := Lib.hid (fun W => ref8F_any n hn W)
  have H3 := Lib.hid (fun W => eqnRate_any s r n hs hr hn W)
  have H4 := Lib.hid (fun W => ref8Rate_any s r n hs hr hn W)
  generalize M.eqnF n = F at *
  generalize M.eqnRate s r n = R at *
  go_enter Tryz.func7, Tryz.ntmps7
  go_wp2_with (first
    | (go_at_call 18; refine (HBG.out _ (by first | exact Below.refl _ _ | exact bel_alloc _ _ | exact bel_trans (bel_alloc _ _) (bel_alloc _ _))).mono ?_; rintro e w0 ⟨rfl, hb0⟩)
    | (go_at_call 45; (with_reducible refine (H1.out _).mono ?_); rintro e w1 ⟨rfl, k1, rfl⟩)
    | (go_at_call 46; (with_reducible refine (H2.out _).mono ?_); rintro e w1 ⟨rfl, k2, rfl⟩)
    | (go_at_call 47; (with_reducible refine (H3.out _).mono ?_); rintro e w1 ⟨rfl, k3, rfl⟩)
    | (go_at_call 48; (with_reducible refine (H4.out _).mono ?_); rintro e w1 ⟨rfl, k4, rfl⟩))
  go_ret
  exact ⟨rfl, bel_trans hb0 (bel_drewN _ _)⟩
theorem mx_eq (a b c : Nat) (h : max a b = c) : (if (a : Int) < (b : Int) then (b : Int) else (a : Int)) = (c : Int) ∧ max (a : Int) (b : Int) = (c : Int) := ⟨by split <;> omega, by omega⟩
set_option maxHeartbeats 2000000 in
theorem eqnOrder_walk (s r n a b c : Nat) (hs : s < 18446744073709551616) (hr : r < 18446744073709551616) (hn : n < 18446744073709551616) (ha : a < 18446744073709551616) (hb : b < 18446744073709551616) (hc : c < 18446744073709551616) (w : World) (hT : TabW w) :
    Calls Tryz.prog 8 #[.int .u64 s, .int .u64 r, .int .u64 n, .int .u64 a, .int .u64 b, .int .u64 c] w fun e w' => e = .returned (.bool true) ∧ Below w.heap.size w w' := by
  have HBG : Hid (∀ W, Below w.heap.size w W → Calls Tryz.prog 18 #[] W fun e w' => e = .returned (.bool true) ∧ Below W.heap.size W w') := Lib.hid (fun W hb => begun8_any W (hT.below hb))
  clear hT
  obtain ⟨rb, hrb⟩ : ∃ x, max r b = x := ⟨_, rfl⟩
  obtain ⟨nc, hnc⟩ : ∃ x, max n c = x := ⟨_, rfl⟩
  obtain ⟨sa, hsa⟩ : ∃ x, max s a = x := ⟨_, rfl⟩
  obtain ⟨i1, j1⟩ := mx_eq r b rb hrb
  obtain ⟨i2, j2⟩ := mx_eq n c nc hnc
  obtain ⟨i3, j3⟩ := mx_eq s a sa hsa
  have o1 := M.eqnRate_r s r n b
  have o2 := M.eqnRate_n s r n c
  have o3 := M.eqnRate_s s r n a
  have o4 : M.eqnF n ≤ M.eqnF (max n c) := M.eqnF_mono (by omega)
  rw [hrb] at o1
  rw [hnc] at o2 o4
  rw [hsa] at o3
  have H0 := Lib.hid (fun W => eqnRate_any s r n hs hr hn W)
  have H1 := Lib.hid (fun W => eqnRate_any s rb n hs (by omega) hn W)
  have H2 := Lib.hid (fun W => eqnRate_any s r nc hs hr (by omega) W)
  have H3 := Lib.hid (fun W => eqnRate_any sa r n (by omega) hr hn W)
  have H4 := Lib.hid (fun W => eqnF_any nc (by omega) W)
  have H5 := Lib.hid (fun W => eqnF_any n hn W)
  generalize M.eqnRate s r n = x0 at *
  generalize M.eqnRate s rb n = x1 at *
  generalize M.eqnRate s r nc = x2 at *
  generalize M.eqnRate sa r n = x3 at *
  generalize M.eqnF nc = f1 at *
  generalize M.eqnF n = f0 at *
  clear hrb hnc hsa
  go_enter Tryz.func8, Tryz.ntmps8
  go_wp2_with (first
    | (go_at_call 18; refine (HBG.out _ (by first | exact Below.refl _ _ | exact bel_alloc _ _ | exact bel_trans (bel_alloc _ _) (bel_alloc _ _))).mono ?_; rintro e w0 ⟨rfl, hb0⟩)
    | (go_at_call 47; (with_reducible refine (H0.out _).mono ?_); rintro e w1 ⟨rfl, k1, rfl⟩)
    | (go_at_call 47; (with_reducible refine (H1.out _).mono ?_); rintro e w1 ⟨rfl, k2, rfl⟩)
    | (go_at_call 47; (with_reducible refine (H2.out _).mono ?_); rintro e w1 ⟨rfl, k3, rfl⟩)
    | (go_at_call 47; (with_reducible refine (H3.out _).mono ?_); rintro e w1 ⟨rfl, k4, rfl⟩)
    | (go_at_call 45; (with_reducible refine (H4.out _).mono ?_); rintro e w1 ⟨rfl, k5, rfl⟩)
    | (go_at_call 45; (with_reducible refine (H5.out _).mono ?_); rintro e w1 ⟨rfl, k6, rfl⟩))
  go_ret
  exact ⟨rfl, bel_trans hb0 (bel_drewN _ _)⟩

theorem brB_raw (n : Nat) (hn : n ≤ 4294967296) : M.isq (3 * n * 9223372036854775808) < 562949953421312 := by
  have := (M.isq_spec (3 * n * 9223372036854775808) (by omega)).1
  apply Nat.lt_of_not_le; intro hc
  have := Nat.mul_le_mul hc hc
  omega
set_option maxHeartbeats 4000000 in
theorem bracket_any (n : Nat) (hn1 : 1 ≤ n) (hn : n ≤ 4294967296) (w : World) :
    Calls Tryz.prog 74 #[.int .u64 n] w fun e w' => e = .returned (.tuple #[.int .u64 (M.brLow n), .int .u64 (M.brHigh n)]) ∧ w = w' ∧ M.brLow n < 4611686018427387904 ∧ M.brHigh n < 4611686018427387904 := by
  obtain ⟨k5, k6, k7⟩ := M.eqC_bd n hn
  have kA := M.brA_lt n hn
  have kB := M.brB_lt n hn
  have kBr := brB_raw n hn
  obtain ⟨p, hp⟩ : ∃ x, n * 1073741824 / 3 = x := ⟨_, rfl⟩
  obtain ⟨A, hA⟩ : ∃ x, M.brA n = x := ⟨_, rfl⟩
  have hA2 : M.isq (p * 8796093022208) = A := by rw [← hp, ← hA]; rfl
  obtain ⟨b0, hb0⟩ : ∃ x, M.isq (3 * n * 9223372036854775808) = x := ⟨_, rfl⟩
  obtain ⟨B, hB⟩ : ∃ x, M.brB n = x := ⟨_, rfl⟩
  have hB2 : b0 * 8 = B := by rw [← hb0, ← hB]; rfl
  obtain ⟨n3, hn3⟩ : ∃ x, 3 * n = x := ⟨_, rfl⟩
  obtain ⟨n32, hn32⟩ : ∃ x, 32 * n = x := ⟨_, rfl⟩
  obtain ⟨c1, hc1⟩ : ∃ x, n32 * n / 4294967296 = x := ⟨_, rfl⟩
  obtain ⟨C, hC⟩ : ∃ x, M.eqC n = x := ⟨_, rfl⟩
  have hC2 : 4294967296 + c1 = C := by rw [← hC, ← hc1, ← hn32]; rfl
  obtain ⟨d1, hd1⟩ : ∃ x, B * n / 4294967296 = x := ⟨_, rfl⟩
  obtain ⟨t1, ht1⟩ : ∃ x, d1 * C / 4294967296 = x := ⟨_, rfl⟩
  obtain ⟨B16, hB16⟩ : ∃ x, B + 16 = x := ⟨_, rfl⟩
  obtain ⟨d2, hd2⟩ : ∃ x, B16 * n / 4294967296 = x := ⟨_, rfl⟩
  obtain ⟨e2, he2⟩ : ∃ x, d2 + 1 = x := ⟨_, rfl⟩
  obtain ⟨C1, hC1⟩ : ∃ x, C + 1 = x := ⟨_, rfl⟩
  obtain ⟨t2, ht2⟩ : ∃ x, e2 * C1 / 4294967296 = x := ⟨_, rfl⟩
  obtain ⟨a16, ha16⟩ : ∃ x, A / 65536 = x := ⟨_, rfl⟩
  have hL : Hid (M.brLow n = A + 12 * t1) := Lib.hid (by unfold M.brLow; rw [hA, hB, hC, hd1, ht1])
  have hH : Hid (M.brHigh n = A + a16 + 64 + 12 * (t2 + 1)) := Lib.hid (by unfold M.brHigh; rw [hA, hB, hC, hB16, hd2, he2, hC1, ht2, ha16])
  rw [hA] at kA
  rw [hB] at kB
  rw [hC] at k6 k7
  rw [hb0] at kBr
  have kd1 : d1 < 4503599627370496 := by
    have := Nat.mul_le_mul (show B ≤ 4503599627370495 by omega) hn
    omega
  have kt1 : t1 < 148619061821112320 := by
    have := Nat.mul_le_mul (show d1 ≤ 4503599627370496 by omega) k6
    omega
  have kd2 : d2 < 4503599627370600 := by
    have := Nat.mul_le_mul (show B16 ≤ 4503599627370512 by omega) hn
    omega
  have kt2 : t2 < 148619061822176312 := by
    have := Nat.mul_le_mul (show e2 ≤ 4503599627370600 by omega) (show C1 ≤ 141733920769 by omega)
    omega
  have G1 : Hid (∀ W, Calls Tryz.prog 75 #[.int .u64 n, .int .u64 1073741824, .int .u64 3] W fun e w' => e = .returned (.int .u64 p) ∧ W = w') := Lib.hid (fun W => refMulDiv_at n 1073741824 3 p (by omega) (by decide) (by decide) (by decide) hp (by omega) W)
  have G2 : Hid (∀ W, Calls Tryz.prog 123 #[.int .u64 p, .int .u64 8796093022208] W fun e w' => e = .returned (.int .u64 A) ∧ W = w') := Lib.hid (fun W => by have h := refSqrtMul_any p 8796093022208 (by omega) (by decide) W; rw [hA2] at h; exact h)
  have G3 : Hid (∀ W, Calls Tryz.prog 123 #[.int .u64 n3, .int .u64 9223372036854775808] W fun e w' => e = .returned (.int .u64 b0) ∧ W = w') := Lib.hid (fun W => by have h := refSqrtMul_any n3 9223372036854775808 (by omega) (by decide) W; rw [← hn3, hb0, hn3] at h; exact h)
  have G4 : Hid (∀ W, Calls Tryz.prog 75 #[.int .u64 n32, .int .u64 n, .int .u64 4294967296] W fun e w' => e = .returned (.int .u64 c1) ∧ W = w') := Lib.hid (fun W => refMulDiv_at n32 n 4294967296 c1 (by omega) (by omega) (by decide) (by decide) hc1 (by omega) W)
  have G5 : Hid (∀ W, Calls Tryz.prog 75 #[.int .u64 B, .int .u64 n, .int .u64 4294967296] W fun e w' => e = .returned (.int .u64 d1) ∧ W = w') := Lib.hid (fun W => refMulDiv_at B n 4294967296 d1 (by omega) (by omega) (by decide) (by decide) hd1 (by omega) W)
  have G6 : Hid (∀ W, Calls Tryz.prog 75 #[.int .u64 d1, .int .u64 C, .int .u64 4294967296] W fun e w' => e = .returned (.int .u64 t1) ∧ W = w') := Lib.hid (fun W => refMulDiv_at d1 C 4294967296 t1 (by omega) (by omega) (by decide) (by decide) ht1 (by omega) W)
  have G7 : Hid (∀ W, Calls Tryz.prog 75 #[.int .u64 B16, .int .u64 n, .int .u64 4294967296] W fun e w' => e = .returned (.int .u64 d2) ∧ W = w') := Lib.hid (fun W => refMulDiv_at B16 n 4294967296 d2 (by omega) (by omega) (by decide) (by decide) hd2 (by omega) W)
  have G8 : Hid (∀ W, Calls Tryz.prog 75 #[.int .u64 e2, .int .u64 C1, .int .u64 4294967296] W fun e w' => e = .returned (.int .u64 t2) ∧ W = w') := Lib.hid (fun W => refMulDiv_at e2 C1 4294967296 t2 (by omega) (by omega) (by decide) (by decide) ht2 (by omega) W)
  have q1 : (3 : Int) * (n : Int) = (n3 : Int) := by omega
  have q2 : (32 : Int) * (n : Int) = (n32 : Int) := by omega
  have q3 : (4294967296 : Int) + (c1 : Int) = (C : Int) := by omega
  have q4 : (b0 : Int) * 8 = (B : Int) := by omega
  have q5 : (B : Int) + 16 = (B16 : Int) := by omega
  have q6 : (d2 : Int) + 1 = (e2 : Int) := by omega
  have q7 : (C : Int) + 1 = (C1 : Int) := by omega
  have q8 : (A : Int) / 65536 = (a16 : Int) := by omega
  have r1 : (n3 : Int) ≤ 12884901888 := by omega
  have r2 : (n32 : Int) ≤ 137438953472 := by omega
  have r3 : (C : Int) ≤ 141733920768 := by omega
  have r4 : (B : Int) < 4503599627370496 := by omega
  have r5 : (A : Int) < 4503599627370496 := by omega
  have r6 : (t1 : Int) < 148619061821112320 := by omega
  have r7 : (t2 : Int) < 148619061822176312 := by omega
  have r8 : (a16 : Int) < 4503599627370496 := by omega
  have r9 : (d2 : Int) < 4503599627370600 := by omega
  have hfin : M.brLow n < 4611686018427387904 ∧ M.brHigh n < 4611686018427387904 := by rw [hL.out, hH.out]; omega
  have HFIN := Lib.hid hfin
  clear hp hA hA2 hb0 hB hB2 hn3 hn32 hc1 hC hC2 hd1 ht1 hB16 hd2 he2 hC1 ht2 ha16 hfin
  go_enter Tryz.func74, Tryz.ntmps74
  go_wp2_with (first
    | (go_at_call 75; (with_reducible refine (G1.out _).mono ?_); rintro e w1 ⟨rfl, rfl⟩; clear G1)
    | (go_at_call 123; (with_reducible refine (G2.out _).mono ?_); rintro e w1 ⟨rfl, rfl⟩; clear G2)
    | (go_at_call 123; (with_reducible refine (G3.out _).mono ?_); rintro e w1 ⟨rfl, rfl⟩; clear G3)
    | (go_at_call 75; (with_reducible refine (G4.out _).mono ?_); rintro e w1 ⟨rfl, rfl⟩; clear G4)
    | (go_at_call 75; (with_reducible refine (G5.out _).mono ?_); rintro e w1 ⟨rfl, rfl⟩; clear G5)
    | (go_at_call 75; (with_reducible refine (G6.out _).mono ?_); rintro e w1 ⟨rfl, rfl⟩; clear G6)
    | (go_at_call 75; (with_reducible refine (G7.out _).mono ?_); rintro e w1 ⟨rfl, rfl⟩; clear G7)
    | (go_at_call 75; (with_reducible refine (G8.out _).mono ?_); rintro e w1 ⟨rfl, rfl⟩; clear G8))
  go_ret2
  exact ⟨M.ret_ints (by rw [hL.out]; omega) (by rw [hH.out]; omega), rfl, HFIN.out⟩

set_option maxHeartbeats 4000000 in
theorem eqnTrue_walk (s r n : Nat) (hs : s < 18446744073709551616) (hr : r < 18446744073709551616) (hn : n < 18446744073709551616) (w : World) (hT : TabW w) :
    Calls Tryz.prog 14 #[.int .u64 s, .int .u64 r, .int .u64 n] w fun e w' => e = .returned (.bool true) ∧ Below w.heap.size w w' := by
  have HBG : Hid (∀ W, Below w.heap.size w W → Calls Tryz.prog 18 #[] W fun e w' => e = .returned (.bool true) ∧ Below W.heap.size W w') := Lib.hid (fun W hb => begun8_any W (hT.below hb))
  clear hT
  obtain ⟨s0, hs0⟩ : ∃ x, s % 65535 = x := ⟨_, rfl⟩
  obtain ⟨r0, hr0⟩ : ∃ x, r % 4294967296 = x := ⟨_, rfl⟩
  obtain ⟨n0, hn0⟩ : ∃ x, n % 4294967296 = x := ⟨_, rfl⟩
  have m1 : (s : Int) % 65535 = (s0 : Int) := by omega
  have m2 : (r : Int) % 4294967296 = (r0 : Int) := by omega
  have m3 : (n : Int) % 4294967296 = (n0 : Int) := by omega
  obtain ⟨s1, hs1⟩ : ∃ x, 1 + s0 = x := ⟨_, rfl⟩
  obtain ⟨r1, hr1⟩ : ∃ x, 1 + r0 = x := ⟨_, rfl⟩
  obtain ⟨n1, hn1⟩ : ∃ x, 1 + n0 = x := ⟨_, rfl⟩
  have m4 : (1 : Int) + (s0 : Int) = (s1 : Int) := by omega
  have m5 : (1 : Int) + (r0 : Int) = (r1 : Int) := by omega
  have m6 : (1 : Int) + (n0 : Int) = (n1 : Int) := by omega
  have bs0 : (s0 : Int) < 65535 := by omega
  have br0 : (r0 : Int) < 4294967296 := by omega
  have bn0 : (n0 : Int) < 4294967296 := by omega
  have bs : 1 ≤ s1 ∧ s1 ≤ 65535 := by omega
  have br : 1 ≤ r1 ∧ r1 ≤ 4294967296 := by omega
  have bn : 1 ≤ n1 ∧ n1 ≤ 4294967296 := by omega
  have HR := Lib.hid (fun W => eqnRate_any s1 r1 n1 (by omega) (by omega) (by omega) W)
  have HB := Lib.hid (fun W => bracket_any n1 bn.1 bn.2 W)
  have x1 := M.rate_most s1 r1 n1 br.1 bn.1 bn.2
  have x2 := M.rate_least s1 r1 n1 br.1 bn.1 bn.2
  have e0 : M.eqnRate s1 r1 n1 = M.eqRate s1 r1 n1 := by
    have a1 : M.inBytes s1 = s1 := by unfold M.inBytes; omega
    have a2 : M.inTime r1 = r1 := by unfold M.inTime; omega
    have a3 : M.inLoss n1 = n1 := by unfold M.inLoss; omega
    show M.eqRate (M.inBytes s1) (M.inTime r1) (M.inLoss n1) = _
    rw [a1, a2, a3]
  rw [e0] at HR
  have l1 := M.low_pos n1 bn.1 bn.2
  have h1 := M.high_pos n1 bn.1 bn.2
  have em : M.brMost s1 r1 n1 = 64000000 * s1 * 4503599627370496 / M.brLow n1 / r1 + 1 := by simp only [M.brMost]
  have el : M.brLeast s1 r1 n1 = 64000000 * s1 * 4503599627370496 / M.brHigh n1 / r1 := by simp only [M.brLeast]
  have ry : M.eqRate s1 r1 n1 ≤ 18446744073709551000 := by
    have h2 := M.eqF_ge n1 bn.1 bn.2
    have h3 := Nat.div_le_div_left (a := 64000000 * s1 * 4294967296) h2 (by decide)
    have h4 : M.eqRate s1 r1 n1 ≤ 64000000 * s1 * 4294967296 / M.eqF n1 := Nat.div_le_self _ _
    omega
  obtain ⟨S64, hS64⟩ : ∃ x, 64000000 * s1 = x := ⟨_, rfl⟩
  have i1 : (64000000 : Int) * (s1 : Int) = (S64 : Int) := by omega
  rw [hS64] at em el
  have f1 : S64 * 4503599627370496 / M.brLow n1 < 1000000000000000000 := by
    have h3 := Nat.div_le_div_left (a := S64 * 4503599627370496) l1 (by decide)
    omega
  have f2 : S64 * 4503599627370496 / M.brHigh n1 < 1000000000000000000 := by
    have h3 := Nat.div_le_div_left (a := S64 * 4503599627370496) h1 (by decide)
    omega
  generalize M.eqRate s1 r1 n1 = y at *
  generalize M.brMost s1 r1 n1 = mo at *
  generalize M.brLeast s1 r1 n1 = le at *
  generalize M.brLow n1 = L at *
  generalize M.brHigh n1 = H at *
  obtain ⟨Q1, hQ1⟩ : ∃ x, S64 * 4503599627370496 / L = x := ⟨_, rfl⟩
  obtain ⟨Q2, hQ2⟩ : ∃ x, S64 * 4503599627370496 / H = x := ⟨_, rfl⟩
  rw [hQ1] at em f1
  rw [hQ2] at el f2
  obtain ⟨q1, hq1⟩ : ∃ x, Q1 / r1 = x := ⟨_, rfl⟩
  rw [hq1] at em
  have bq1 : q1 ≤ Q1 := by rw [← hq1]; exact Nat.div_le_self _ _
  have ble : le ≤ Q2 := by rw [el]; exact Nat.div_le_self _ _
  have i2 : (Q1 : Int) / (r1 : Int) = (q1 : Int) := by rw [← hq1]; simp
  have i3 : (Q2 : Int) / (r1 : Int) = (le : Int) := by rw [el]; simp
  have i4 : (q1 : Int) + 1 = (mo : Int) := by omega
  obtain ⟨mk, hmk⟩ : ∃ x, mo / 1024 = x := ⟨_, rfl⟩
  obtain ⟨lk, hlk⟩ : ∃ x, le / 1024 = x := ⟨_, rfl⟩
  have i5 : (mo : Int) / 1024 = (mk : Int) := by omega
  have i6 : (le : Int) / 1024 = (lk : Int) := by omega
  obtain ⟨mn, hmn⟩ : ∃ x, min 1 le = x := ⟨_, rfl⟩
  have i7 : (if (le : Int) < 1 then (le : Int) else 1) = (mn : Int) := by split <;> omega
  have i8 : min (1 : Int) (le : Int) = (mn : Int) := by omega
  have b1 : (q1 : Int) < 1000000000000000000 := by omega
  have b2 : (le : Int) < 1000000000000000000 := by omega
  have b3 : (mk : Int) < 1000000000000000000 := by omega
  have b4 : (lk : Int) + (mn : Int) ≤ (le : Int) := by omega
  have b5 : (mn : Int) ≤ 1 := by omega
  have b6 : (y : Int) ≤ 18446744073709551000 := by omega
  have b7 : (mo : Int) ≤ 1000000000000000000 := by omega
  have c1 : (y : Int) ≤ (mo : Int) + (mk : Int) + 1 := by omega
  have c2 : (le : Int) - (lk : Int) - (mn : Int) ≤ (y : Int) + 1 := by omega
  have HM1 : Hid (∀ W, L < 18446744073709551616 → Calls Tryz.prog 75 #[.int .u64 S64, .int .u64 4503599627370496, .int .u64 L] W fun e w' => e = .returned (.int .u64 Q1) ∧ W = w') := Lib.hid (fun W hl => refMulDiv_at S64 4503599627370496 L Q1 (by omega) (by decide) hl (by omega) hQ1 (by omega) W)
  have HM2 : Hid (∀ W, H < 18446744073709551616 → Calls Tryz.prog 75 #[.int .u64 S64, .int .u64 4503599627370496, .int .u64 H] W fun e w' => e = .returned (.int .u64 Q2) ∧ W = w') := Lib.hid (fun W hl => refMulDiv_at S64 4503599627370496 H Q2 (by omega) (by decide) hl (by omega) hQ2 (by omega) W)
  have hz : ((r1 : Int) == 0) = false := by rw [beq_eq_false_iff_ne]; omega
  have hz2 : ¬ (r1 = 0) := by omega
  have bS : (S64 : Int) ≤ 4194240000000 := by omega
  have bs2 : (s1 : Int) ≤ 65535 := by omega
  clear x1 x2 e0 em el f1 f2 hS64 hQ1 hQ2 hq1 hmk hlk hmn hs0 hr0 hn0 hs1 hr1 hn1 hs hr hn bs br bn ry bq1 ble l1 h1
  go_enter Tryz.func14, Tryz.ntmps14
  go_wp2_with (first
    | (go_at_call 18; refine (HBG.out _ (by first | exact Below.refl _ _ | exact bel_alloc _ _ | exact bel_trans (bel_alloc _ _) (bel_alloc _ _))).mono ?_; rintro e w0 ⟨rfl, hb0⟩)
    | (go_at_call 47; (with_reducible refine (HR.out _).mono ?_); rintro e w1 ⟨rfl, k1, rfl⟩)
    | (go_at_call 74; (with_reducible refine (HB.out _).mono ?_); rintro e w1 ⟨rfl, rfl, hl1, hl2⟩)
    | (go_at_call 75; (with_reducible refine (HM1.out _ (by omega)).mono ?_); rintro e w1 ⟨rfl, rfl⟩; clear HM1)
    | (go_at_call 75; (with_reducible refine (HM2.out _ (by omega)).mono ?_); rintro e w1 ⟨rfl, rfl⟩; clear HM2))
  go_ret
  exact ⟨rfl, bel_trans hb0 (bel_drewN _ _)⟩
end Go.Proofs.YtnffdacajdjeoaaGreatDoor
