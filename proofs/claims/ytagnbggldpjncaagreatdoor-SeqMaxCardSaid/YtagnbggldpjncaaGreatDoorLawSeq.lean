/-
  The laws on package seq (those over integers alone), walked: each answers true, and nothing that was there has turned.
-/
import Derived.Test.YtagnbggldpjncaaGreatDoorSeqA
import Derived.Test.YtagnbggldpjncaaGreatDoorBel
import Derived.Test.YtagnbggldpjncaaGreatDoorBegun
import Derived.Deep.RegionWith
namespace Go.Proofs.YtagnbggldpjncaaGreatDoor
open Go.ChangeShapes Go.WideShapes Go.ChangeAt Go.RowKit
set_option linter.unusedVariables false

theorem diffI_in (a b : Int) : -140737488355328 ≤ diffI a b ∧ diffI a b < 140737488355328 := by unfold diffI; omega
theorem stepI_in (s n : Int) : 0 ≤ stepI s n ∧ stepI s n < 281474976710656 := by unfold stepI; omega

theorem seqAll_walk (a b c : Nat) (n : Int) (ha : a < 18446744073709551616) (hb : b < 18446744073709551616) (hc : c < 18446744073709551616) (h2 : -9223372036854775808 ≤ n) (h3 : n ≤ 9223372036854775807) (w : World) :
    Calls Tryz.prog 6 #[.int .u64 a, .int .u64 b, .int .u64 c, .int .i64 n] w fun e w' => e = .returned (.bool true) ∧ Below w.heap.size w w' := by
  have hd := diffI_in a b
  have hst : stepI b (diffI a b) = (a : Int) % 281474976710656 := by unfold stepI diffI; omega
  have HD := Lib.hid (fun w => seqDiff_any a b ha hb w)
  have HD2 := Lib.hid (fun w => refDiff_any a b ha hb w)
  have HL := Lib.hid (fun w => seqLess_any a b ha hb w)
  have HL2 := Lib.hid (fun w => refLess_any a b ha hb w)
  generalize diffI a b = d at *
  have HB := Lib.hid (fun w => seqAdd_any b d hb (by omega) (by omega) w)
  rw [hst] at HB
  have HA := Lib.hid (fun w => seqAdd_any a n ha h2 h3 w)
  have HA2 := Lib.hid (fun w => refStep_any a n ha h2 h3 w)
  generalize stepI a n = s at *
  clear hst
  go_enter Tryz.func6, Tryz.ntmps6
  go_wp2_with (first
    | (go_at_call 15; refine (begun_any _).mono ?_; rintro e w0 ⟨rfl, hb0⟩)
    | (go_at_call 30; refine (seqOf_any a ha _).mono ?_; rintro e w1 ⟨rfl, rfl⟩)
    | (go_at_call 31; refine (refSeq_any a ha _).mono ?_; rintro e w1 ⟨rfl, rfl⟩)
    | (go_at_call_of 32 (Value.int IntKind.u64 (a : Int)); refine (HA.out _).mono ?_; rintro e w1 ⟨rfl, rfl⟩)
    | (go_at_call_of 32 (Value.int IntKind.u64 (b : Int)); refine (HB.out _).mono ?_; rintro e w1 ⟨rfl, rfl⟩)
    | (go_at_call 33; refine (HA2.out _).mono ?_; rintro e w1 ⟨rfl, rfl⟩)
    | (go_at_call 34; refine (HD.out _).mono ?_; rintro e w1 ⟨rfl, rfl⟩)
    | (go_at_call 35; refine (HD2.out _).mono ?_; rintro e w1 ⟨rfl, rfl⟩)
    | (go_at_call 36; refine (HL.out _).mono ?_; rintro e w1 ⟨rfl, rfl⟩)
    | (go_at_call 37; refine (HL2.out _).mono ?_; rintro e w1 ⟨rfl, rfl⟩)
    | (go_at_call 38; refine (seqIn_any a b c ha hb hc _).mono ?_; rintro e w1 ⟨rfl, rfl⟩)
    | (go_at_call 39; refine (refIn_any a b c ha hb hc _).mono ?_; rintro e w1 ⟨rfl, rfl⟩))
  go_ret
  exact ⟨rfl, hb0⟩

theorem tmod_in (n m : Int) (hm : 0 < m) : -m < n.tmod m ∧ n.tmod m < m := by
  by_cases h : 0 ≤ n
  · rw [Int.tmod_eq_emod_of_nonneg h]
    have := Int.emod_nonneg n (show m ≠ 0 by omega)
    have := Int.emod_lt_of_pos n hm
    omega
  · obtain ⟨k, rfl⟩ : ∃ k, n = -k := ⟨-n, by omega⟩
    rw [Int.neg_tmod, Int.tmod_eq_emod_of_nonneg (by omega)]
    have := Int.emod_nonneg k (show m ≠ 0 by omega)
    have := Int.emod_lt_of_pos k hm
    omega

theorem window_fin (low n d : Int) (h0 : 0 ≤ n) (h1 : n < 1000000) (h2 : -3000000 < d) (h3 : d < 3000000) : inB low (stepI low d) (stepI low n) = decide (0 ≤ d ∧ d ≤ n) := by
  unfold inB stepI; rw [decide_eq_decide]; omega

theorem inB_any (a : Nat) (b c : Int) (h1 : a < 18446744073709551616) (hb0 : 0 ≤ b) (h2 : b < 18446744073709551616) (hc0 : 0 ≤ c) (h3 : c < 18446744073709551616) (w : World) :
    Calls Tryz.prog 38 #[.int .u64 a, .int .u64 b, .int .u64 c] w fun e w' => e = .returned (.bool (inB a b c)) ∧ w = w' := by
  obtain ⟨b, rfl⟩ := Int.eq_ofNat_of_zero_le hb0
  obtain ⟨c, rfl⟩ := Int.eq_ofNat_of_zero_le hc0
  exact seqIn_any a b c h1 (by omega) (by omega) w

theorem seqWindow_walk (low : Nat) (n d : Int) (ha : low < 18446744073709551616) (h2 : -9223372036854775808 ≤ n) (h3 : n ≤ 9223372036854775807) (h4 : -9223372036854775808 ≤ d) (h5 : d ≤ 9223372036854775807) (w : World) :
    Calls Tryz.prog 14 #[.int .u64 low, .int .i64 n, .int .i64 d] w fun e w' => e = .returned (.bool true) ∧ Below w.heap.size w w' := by
  obtain ⟨m1, m2⟩ := tmod_in n 1000000 (by decide)
  obtain ⟨k1, k2⟩ := tmod_in d 3000000 (by decide)
  obtain ⟨m, hm⟩ : ∃ m, n.tmod 1000000 = m := ⟨_, rfl⟩
  obtain ⟨k, hk⟩ : ∃ k, d.tmod 3000000 = k := ⟨_, rfl⟩
  rw [hm] at m1 m2
  rw [hk] at k1 k2
  have hwin : ∀ q, 0 ≤ q → q < 1000000 → inB low (stepI low k) (stepI low q) = decide (0 ≤ k ∧ k ≤ q) := fun q a b => window_fin low q k a b k1 k2
  have HWIN := Lib.hid hwin
  have HST := Lib.hid (stepI_in low)
  clear hwin
  by_cases hk0 : 0 ≤ k
  · by_cases hkm : k ≤ max 0 m
    · go_enter Tryz.func14, Tryz.ntmps14
      go_wp2_with (first
        | (go_at_call 15; refine (begun_any _).mono ?_; rintro e w0 ⟨rfl, hb0⟩))
      all_goals
        refine (seqAdd_any low _ ha (by omega) (by omega) _).mono ?_
        rintro e w1 ⟨rfl, rfl⟩
        go_wp2_with fail
        refine (seqAdd_any low k ha (by omega) (by omega) _).mono ?_
        rintro e w1 ⟨rfl, rfl⟩
        go_wp2_with fail
        refine (inB_any low _ _ ha (HST.out _).1 (by have := (HST.out k).2; omega) (HST.out _).1 (Int.lt_trans (HST.out _).2 (by decide)) _).mono ?_
        rintro e w1 ⟨rfl, rfl⟩
        rw [HWIN.out _ (by omega) (by omega), decide_eq_true (by omega)]
        go_wp2
        go_ret
        exact ⟨M.ret_bool (by first | rfl | omega | (simp; omega)), hb0⟩
    · go_enter Tryz.func14, Tryz.ntmps14
      go_wp2_with (first
        | (go_at_call 15; refine (begun_any _).mono ?_; rintro e w0 ⟨rfl, hb0⟩))
      all_goals
        refine (seqAdd_any low _ ha (by omega) (by omega) _).mono ?_
        rintro e w1 ⟨rfl, rfl⟩
        go_wp2_with fail
        refine (seqAdd_any low k ha (by omega) (by omega) _).mono ?_
        rintro e w1 ⟨rfl, rfl⟩
        go_wp2_with fail
        refine (inB_any low _ _ ha (HST.out _).1 (by have := (HST.out k).2; omega) (HST.out _).1 (Int.lt_trans (HST.out _).2 (by decide)) _).mono ?_
        rintro e w1 ⟨rfl, rfl⟩
        rw [HWIN.out _ (by omega) (by omega), decide_eq_false (by omega)]
        go_wp2
        go_ret
        exact ⟨M.ret_bool (by first | rfl | omega | (simp; omega)), hb0⟩
  · go_enter Tryz.func14, Tryz.ntmps14
    go_wp2_with (first
      | (go_at_call 15; refine (begun_any _).mono ?_; rintro e w0 ⟨rfl, hb0⟩))
    all_goals
      refine (seqAdd_any low _ ha (by omega) (by omega) _).mono ?_
      rintro e w1 ⟨rfl, rfl⟩
      go_wp2_with fail
      refine (seqAdd_any low k ha (by omega) (by omega) _).mono ?_
      rintro e w1 ⟨rfl, rfl⟩
      go_wp2_with fail
      refine (inB_any low _ _ ha (HST.out _).1 (by have := (HST.out k).2; omega) (HST.out _).1 (Int.lt_trans (HST.out _).2 (by decide)) _).mono ?_
      rintro e w1 ⟨rfl, rfl⟩
      rw [HWIN.out _ (by omega) (by omega), decide_eq_false (by omega)]
      go_wp2
      go_ret
      exact ⟨M.ret_bool (by first | rfl | omega | (simp; omega)), hb0⟩

theorem seqAddI_any (s n : Int) (h0 : 0 ≤ s) (h1 : s < 18446744073709551616) (h2 : -9223372036854775808 ≤ n) (h3 : n ≤ 9223372036854775807) (w : World) :
    Calls Tryz.prog 32 #[.int .u64 s, .int .i64 n] w fun e w' => e = .returned (.int .u64 (stepI s n)) ∧ w = w' := by
  obtain ⟨s, rfl⟩ := Int.eq_ofNat_of_zero_le h0
  exact seqAdd_any s n (by omega) h2 h3 w

theorem round_back (a n : Int) : stepI (stepI a n) (-n) = a % 281474976710656 := by unfold stepI; omega
theorem diff_turn (a b : Int) : diffI a b = -diffI b a ∨ (diffI a b = diffI b a ∧ diffI a b = -140737488355328) := by unfold diffI; omega
theorem diff_zero (a b : Int) : diffI a b = 0 ↔ a % 281474976710656 = b % 281474976710656 := by unfold diffI; omega
theorem inB_end (a b : Int) : inB a b b = true := decide_eq_true (Int.le_refl _)
theorem inB_begin (a b : Int) : inB a a b = true := decide_eq_true (by omega)

theorem seqRound_walk (a b : Nat) (n : Int) (ha : a < 18446744073709551616) (hb : b < 18446744073709551616) (h2 : -9223372036854775808 ≤ n) (h3 : n ≤ 9223372036854775807) (w : World) :
    Calls Tryz.prog 10 #[.int .u64 a, .int .u64 b, .int .i64 n] w fun e w' => e = .returned (.bool true) ∧ Below w.heap.size w w' := by
  have hd := diffI_in a b
  have he := diffI_in b a
  have ht := diff_turn a b
  have hz := diff_zero a b
  have HD := Lib.hid (fun w => seqDiff_any a b ha hb w)
  have HE := Lib.hid (fun w => seqDiff_any b a hb ha w)
  have HI1 := Lib.hid (fun w => seqIn_any a b b ha hb hb w)
  have HI2 := Lib.hid (fun w => seqIn_any a a b ha ha hb w)
  rw [inB_end] at HI1
  rw [inB_begin] at HI2
  have HR := Lib.hid (fun m => round_back a m)
  have HST := Lib.hid (stepI_in a)
  have HO := Lib.hid (fun w => seqOf_any a ha w)
  have HO2 := Lib.hid (fun w => seqOf_any b hb w)
  generalize diffI (a : Int) (b : Int) = d at *
  generalize diffI (b : Int) (a : Int) = e at *
  generalize hra : (a : Int) % 281474976710656 = ra at *
  generalize hrb : (b : Int) % 281474976710656 = rb at *
  clear hra hrb
  have hzb : (d == 0) = (ra == rb) := by rw [Bool.eq_iff_iff, beq_iff_eq, beq_iff_eq]; exact hz
  obtain ⟨zb, hzv⟩ : ∃ zb, (ra == rb) = zb := ⟨_, rfl⟩
  rw [hzv] at hzb
  clear hz
  have hdl : decide (-140737488355328 ≤ d) = true := decide_eq_true hd.1
  have hdh : decide (d < 140737488355328) = true := decide_eq_true hd.2
  obtain ⟨hd1, hd2⟩ := hd
  obtain ⟨he1, he2⟩ := he
  by_cases hde : d = -e
  · have hdb : (d == -e) = true := by rw [beq_iff_eq]; exact hde
    clear ht hde
    by_cases hn : n = -9223372036854775808
    · subst hn
      have hr0 : stepI (stepI a (-9223372036854775807)) 9223372036854775807 = ra := by have h := HR.out (-9223372036854775807); rwa [Int.neg_neg] at h
      have HR0 := Lib.hid hr0; clear hr0
      go_enter Tryz.func10, Tryz.ntmps10
      go_wp2_with fail
      refine (begun_any _).mono ?_
      rintro e w0 ⟨rfl, hb0⟩
      go_wp2_with fail
      refine (HD.out _).mono ?_
      rintro e w1 ⟨rfl, rfl⟩
      go_wp2_with fail
      refine (HE.out _).mono ?_
      rintro e w1 ⟨rfl, rfl⟩
      go_wp2_with fail
      refine (seqAdd_any a (-9223372036854775807) ha (by omega) (by omega) _).mono ?_
      rintro e w1 ⟨rfl, rfl⟩
      go_wp2_with fail
      refine (seqAddI_any _ _ (HST.out _).1 (Int.lt_trans (HST.out _).2 (by decide)) (by omega) (by omega) _).mono ?_
      rintro e w1 ⟨rfl, rfl⟩
      rw [HR0.out]
      go_wp2_with fail
      refine (HO.out _).mono ?_
      rintro e w1 ⟨rfl, rfl⟩
      go_wp2_with fail
      refine (HO.out _).mono ?_
      rintro e w1 ⟨rfl, rfl⟩
      go_wp2_with fail
      refine (HO2.out _).mono ?_
      rintro e w1 ⟨rfl, rfl⟩
      go_wp2_with fail
      refine (HI1.out _).mono ?_
      rintro e w1 ⟨rfl, rfl⟩
      go_wp2_with fail
      refine (HI2.out _).mono ?_
      rintro e w1 ⟨rfl, rfl⟩
      go_wp2_with fail
      go_ret
      exact ⟨M.ret_bool (by first | rfl | simp), hb0⟩
    · have hnb : (n == -9223372036854775808) = false := by rw [beq_eq_false_iff_ne]; exact hn
      have hn2 : -9223372036854775807 ≤ n := by omega
      clear hn
      go_enter Tryz.func10, Tryz.ntmps10
      go_wp2_with fail
      refine (begun_any _).mono ?_
      rintro e w0 ⟨rfl, hb0⟩
      go_wp2_with fail
      refine (HD.out _).mono ?_
      rintro e w1 ⟨rfl, rfl⟩
      go_wp2_with fail
      refine (HE.out _).mono ?_
      rintro e w1 ⟨rfl, rfl⟩
      go_wp2_with fail
      refine (seqAdd_any a n ha (by omega) (by omega) _).mono ?_
      rintro e w1 ⟨rfl, rfl⟩
      go_wp2_with fail
      refine (seqAddI_any _ _ (HST.out _).1 (Int.lt_trans (HST.out _).2 (by decide)) (by omega) (by omega) _).mono ?_
      rintro e w1 ⟨rfl, rfl⟩
      rw [HR.out]
      go_wp2_with fail
      refine (HO.out _).mono ?_
      rintro e w1 ⟨rfl, rfl⟩
      go_wp2_with fail
      refine (HO.out _).mono ?_
      rintro e w1 ⟨rfl, rfl⟩
      go_wp2_with fail
      refine (HO2.out _).mono ?_
      rintro e w1 ⟨rfl, rfl⟩
      go_wp2_with fail
      refine (HI1.out _).mono ?_
      rintro e w1 ⟨rfl, rfl⟩
      go_wp2_with fail
      refine (HI2.out _).mono ?_
      rintro e w1 ⟨rfl, rfl⟩
      go_wp2_with fail
      go_ret
      exact ⟨M.ret_bool (by first | rfl | simp), hb0⟩
  · have hdb : (d == -e) = false := by rw [beq_eq_false_iff_ne]; exact hde
    have hde2 : (d == e) = true := by rw [beq_iff_eq]; omega
    have hdm : (d == -140737488355328) = true := by rw [beq_iff_eq]; omega
    clear ht hde
    by_cases hn : n = -9223372036854775808
    · subst hn
      have hr0 : stepI (stepI a (-9223372036854775807)) 9223372036854775807 = ra := by have h := HR.out (-9223372036854775807); rwa [Int.neg_neg] at h
      have HR0 := Lib.hid hr0; clear hr0
      go_enter Tryz.func10, Tryz.ntmps10
      go_wp2_with fail
      refine (begun_any _).mono ?_
      rintro e w0 ⟨rfl, hb0⟩
      go_wp2_with fail
      refine (HD.out _).mono ?_
      rintro e w1 ⟨rfl, rfl⟩
      go_wp2_with fail
      refine (HE.out _).mono ?_
      rintro e w1 ⟨rfl, rfl⟩
      go_wp2_with fail
      refine (seqAdd_any a (-9223372036854775807) ha (by omega) (by omega) _).mono ?_
      rintro e w1 ⟨rfl, rfl⟩
      go_wp2_with fail
      refine (seqAddI_any _ _ (HST.out _).1 (Int.lt_trans (HST.out _).2 (by decide)) (by omega) (by omega) _).mono ?_
      rintro e w1 ⟨rfl, rfl⟩
      rw [HR0.out]
      go_wp2_with fail
      refine (HO.out _).mono ?_
      rintro e w1 ⟨rfl, rfl⟩
      go_wp2_with fail
      refine (HO.out _).mono ?_
      rintro e w1 ⟨rfl, rfl⟩
      go_wp2_with fail
      refine (HO2.out _).mono ?_
      rintro e w1 ⟨rfl, rfl⟩
      go_wp2_with fail
      refine (HI1.out _).mono ?_
      rintro e w1 ⟨rfl, rfl⟩
      go_wp2_with fail
      refine (HI2.out _).mono ?_
      rintro e w1 ⟨rfl, rfl⟩
      go_wp2_with fail
      go_ret
      exact ⟨M.ret_bool (by first | rfl | simp), hb0⟩
    · have hnb : (n == -9223372036854775808) = false := by rw [beq_eq_false_iff_ne]; exact hn
      have hn2 : -9223372036854775807 ≤ n := by omega
      clear hn
      go_enter Tryz.func10, Tryz.ntmps10
      go_wp2_with fail
      refine (begun_any _).mono ?_
      rintro e w0 ⟨rfl, hb0⟩
      go_wp2_with fail
      refine (HD.out _).mono ?_
      rintro e w1 ⟨rfl, rfl⟩
      go_wp2_with fail
      refine (HE.out _).mono ?_
      rintro e w1 ⟨rfl, rfl⟩
      go_wp2_with fail
      refine (seqAdd_any a n ha (by omega) (by omega) _).mono ?_
      rintro e w1 ⟨rfl, rfl⟩
      go_wp2_with fail
      refine (seqAddI_any _ _ (HST.out _).1 (Int.lt_trans (HST.out _).2 (by decide)) (by omega) (by omega) _).mono ?_
      rintro e w1 ⟨rfl, rfl⟩
      rw [HR.out]
      go_wp2_with fail
      refine (HO.out _).mono ?_
      rintro e w1 ⟨rfl, rfl⟩
      go_wp2_with fail
      refine (HO.out _).mono ?_
      rintro e w1 ⟨rfl, rfl⟩
      go_wp2_with fail
      refine (HO2.out _).mono ?_
      rintro e w1 ⟨rfl, rfl⟩
      go_wp2_with fail
      refine (HI1.out _).mono ?_
      rintro e w1 ⟨rfl, rfl⟩
      go_wp2_with fail
      refine (HI2.out _).mono ?_
      rintro e w1 ⟨rfl, rfl⟩
      go_wp2_with fail
      go_ret
      exact ⟨M.ret_bool (by first | rfl | simp), hb0⟩

theorem long_back (n d : Int) (h1 : -8388608 < d) (h2 : d < 8388608) : longI (stepI n d % 16777216) n = stepI n d := by unfold longI stepI; omega

set_option maxHeartbeats 400000 in
theorem seqShort_walk (s n : Nat) (d : Int) (hs : s < 4294967296) (hn : n < 18446744073709551616) (h2 : -9223372036854775808 ≤ d) (h3 : d ≤ 9223372036854775807) (w : World) :
    Calls Tryz.prog 8 #[.int .u32 s, .int .u64 n, .int .i64 d] w fun e w' => e = .returned (.bool true) ∧ Below w.heap.size w w' := by
  obtain ⟨e1, e2, e3, e4, e5⟩ := longI_spec s n
  have HL := Lib.hid (fun w => seqLong_any s n hs hn w)
  have HL2 := Lib.hid (fun w => refLong_any s n hs hn w)
  obtain ⟨x, hx⟩ := Int.eq_ofNat_of_zero_le e2
  rw [hx] at HL HL2 e1 e3 e4 e5
  have hxl : x < 281474976710656 := by omega
  have HD := Lib.hid (fun w => seqDiff_any x n (by omega) hn w)
  generalize diffI (x : Int) (n : Int) = f at *
  obtain ⟨m1, m2⟩ := tmod_in d 8388608 (by decide)
  obtain ⟨k, hk⟩ : ∃ k, d.tmod 8388608 = k := ⟨_, rfl⟩
  rw [hk] at m1 m2
  have HST := Lib.hid (fun w => refStep_any n k hn (by omega) (by omega) w)
  have hlb := long_back n k m1 m2
  have hyi := stepI_in n k
  obtain ⟨y, hy⟩ := Int.eq_ofNat_of_zero_le hyi.1
  rw [hy] at HST hlb hyi
  have hyl : y < 281474976710656 := by omega
  have HSH := Lib.hid (fun w => seqShort_any y (by omega) w)
  obtain ⟨z, hz, hzl⟩ : ∃ z : Nat, (y : Int) % 16777216 = z ∧ z < 16777216 := ⟨y % 16777216, by omega, by omega⟩
  rw [hz] at HSH hlb
  have HLB := Lib.hid (fun w => seqLong_any z n (by omega) hn w)
  rw [hlb] at HLB
  have hgt : decide (281474976710655 < (x : Int)) = false := decide_eq_false (by omega)
  clear hlb hyi hy hx e2 e3
  go_enter Tryz.func8, Tryz.ntmps8
  go_wp2_with fail
  refine (begun_any _).mono ?_
  rintro e w0 ⟨rfl, hb0⟩
  go_wp2_with fail
  refine (HL.out _).mono ?_
  rintro e w1 ⟨rfl, rfl⟩
  go_wp2_with fail
  refine (HL2.out _).mono ?_
  rintro e w1 ⟨rfl, rfl⟩
  go_wp2_with fail
  refine (HD.out _).mono ?_
  rintro e w1 ⟨rfl, rfl⟩
  go_wp2_with fail
  refine (HST.out _).mono ?_
  rintro e w1 ⟨rfl, rfl⟩
  go_wp2_with fail
  refine (HSH.out _).mono ?_
  rintro e w1 ⟨rfl, rfl⟩
  go_wp2_with fail
  refine (HSH.out _).mono ?_
  rintro e w1 ⟨rfl, rfl⟩
  go_wp2_with fail
  refine (HLB.out _).mono ?_
  rintro e w1 ⟨rfl, rfl⟩
  go_wp2_with fail
  go_ret
  exact ⟨M.ret_bool (by first | rfl | simp), hb0⟩

theorem order_facts (a x y : Int) (hx0 : 0 ≤ x) (hx1 : x < 35184372088832) (hy0 : 0 ≤ y) (hy1 : y < 35184372088832) :
    decide (diffI a (stepI a x) < 0) = decide (0 < x) ∧ decide (diffI (stepI a x) (stepI (stepI a x) y) < 0) = decide (0 < y)
    ∧ decide (diffI a (stepI (stepI a x) y) < 0) = (decide (0 < x) || decide (0 < y)) ∧ inB a (stepI a x) (stepI (stepI a x) y) = true
    ∧ inB a (stepI (stepI a x) y) (stepI a x) = decide (y = 0) ∧ diffI (stepI (stepI a x) y) (stepI a x) = y := by
  have hd : ∀ u v : Int, diffI u v = (u - v + 140737488355328) % 281474976710656 - 140737488355328 := fun _ _ => rfl
  have hs : ∀ u v : Int, stepI u v = (u + v) % 281474976710656 := fun _ _ => rfl
  refine ⟨?_, ?_, ?_, ?_, ?_, ?_⟩
  · rw [decide_eq_decide, hd, hs]; omega
  · rw [decide_eq_decide, hd, hs, hs]; omega
  · rw [← Bool.decide_or, decide_eq_decide, hd, hs, hs]; omega
  · unfold inB; apply decide_eq_true; rw [hs, hs]; omega
  · unfold inB; rw [decide_eq_decide, hs, hs]; omega
  · rw [hd, hs, hs]; omega

theorem max_two (a : Nat) (x y : Int) (b c : Nat) (hb : stepI a x = b) (hc : stepI (stepI a x) y = c) (hx0 : 0 ≤ x) (hx1 : x < 35184372088832) (hy0 : 0 ≤ y) (hy1 : y < 35184372088832) : (maxI a [c, b] : Int) % 281474976710656 = c := by
  obtain ⟨_, _, f3, _, _, f6⟩ := order_facts a x y hx0 hx1 hy0 hy1
  have hci := stepI_in (stepI a x) y
  rw [hb] at f6 hc hci
  rw [hb, hc] at f3
  rw [hc] at f6 hci
  simp only [maxI, List.foldl_cons, List.foldl_nil]
  have e1 : maxStep a c = c ∨ (maxStep a c = a ∧ (a : Int) % 281474976710656 = c) := by
    unfold maxStep
    by_cases h : diffI a c < 0
    · left; rw [if_pos h]
    · right
      rw [if_neg h]
      rw [decide_eq_false h] at f3
      have hxy : x = 0 ∧ y = 0 := by
        have := f3.symm
        rw [Bool.or_eq_false_iff, decide_eq_false_iff_not, decide_eq_false_iff_not] at this
        omega
      obtain ⟨rfl, rfl⟩ := hxy
      refine ⟨rfl, ?_⟩
      rw [← hc, ← hb]; unfold stepI; omega
  have e2 : maxStep c b = c := by unfold maxStep; rw [if_neg (by rw [f6]; omega)]
  rcases e1 with e1 | ⟨e1, e3⟩
  · rw [e1, e2]; omega
  · rw [e1]
    have e4 : diffI a b = diffI c b := by unfold diffI; omega
    unfold maxStep
    rw [e4, if_neg (by rw [f6]; omega)]
    exact e3
end Go.Proofs.YtagnbggldpjncaaGreatDoor
