/-
  The law CtrlKinds, walked (its opening handed in).
-/
import Derived.Test.YtnhlachoimlhhaaGreatDoorCtW
namespace Go.Proofs.YtnhlachoimlhhaaGreatDoor
open Go.ChangeShapes Go.WideShapes Go.ChangeAt Go.RowKit
set_option linter.unusedVariables false
set_option linter.unusedSimpArgs false

set_option maxHeartbeats 8000000 in
set_option maxRecDepth 100000 in
theorem ctrlKinds_win (sz : Int) (s1 : -9223372036854775808 ≤ sz) (s2 : sz ≤ 9223372036854775807) (h1 : 1 ≤ sz) (h2 : sz ≤ 1400) (w : World)
    (hbg : Calls Tryz.prog 14 #[] w fun e w' => e = .returned (.bool true) ∧ Below w.heap.size w w') :
    Calls Tryz.prog 4 #[.int .i64 2, .int .i64 sz] w fun e w' => e = .returned (.bool true) ∧ Below w.heap.size w w' := by
  have HBG := Lib.hid hbg
  clear hbg
  have d1 : decide (1 ≤ sz) = true := decide_eq_true h1
  have d2 : decide (sz ≤ 1400) = true := decide_eq_true h2
  go_enter Tryz.func4, Tryz.ntmps4
  go_upto_region 5 with (first
    | (go_at_call 14; (with_reducible refine HBG.out.mono ?_); rintro e w0 ⟨rfl, hb0⟩)
    | (go_at_call 30; (with_reducible refine (ctOf_win sz h1 h2 _).mono ?_); rintro e w1 ⟨K, C, D, rfl, hc, hK, hC, hD, hb1⟩))
  have HC := Lib.hid hc
  have HB : Hid (Below w.heap.size w w1) := Lib.hid (bel_trans hb0 hb1)
  clear hc hK hC hD hb0 hb1
  have HW := Lib.hid (ctWindow_win HC.out)
  have HK := Lib.hid (ctBucket_win K w1)
  unfold cwV at *
  have e1 := eqW_N
  have n1 := naW_Kind
  have n2 := meW_Kind
  go_wp2_with (first
    | (go_at_call 31; (with_reducible refine HW.out.mono ?_); rintro e w2 ⟨rfl, rfl⟩)
    | (go_at_call 32; (with_reducible refine HK.out.mono ?_); rintro e w2 ⟨rfl, rfl⟩)
    | (go_at_call 355; (with_reducible refine (cwKind_any K _).mono ?_); rintro e w2 ⟨rfl, rfl⟩))

  go_ret
  exact ⟨rfl, HB.out⟩
set_option maxHeartbeats 8000000 in
set_option maxRecDepth 100000 in
theorem ctrlKinds_rate (S : Nat) (h1 : 1 ≤ S) (h2 : S ≤ 1400) (w : World)
    (hbg : Calls Tryz.prog 14 #[] w fun e w' => e = .returned (.bool true) ∧ Below w.heap.size w w') :
    Calls Tryz.prog 4 #[.int .i64 3, .int .i64 S] w fun e w' => e = .returned (.bool true) ∧ Below w.heap.size w w' := by
  have HBG := Lib.hid hbg
  clear hbg
  have d1 : decide (1 ≤ (S : Int)) = true := decide_eq_true (by omega)
  have d2 : decide ((S : Int) ≤ 1400) = true := decide_eq_true (by omega)
  go_enter Tryz.func4, Tryz.ntmps4
  go_upto_region 5 with (first
    | (go_at_call 14; (with_reducible refine HBG.out.mono ?_); rintro e w0 ⟨rfl, hb0⟩)
    | (go_at_call 30; (with_reducible refine (ctOf_rate S h1 h2 _).mono ?_); rintro e w1 ⟨K, C, P, B, v, rfl, hc, hK, hC, hP, hB, hv, hb1⟩))
  have HC := Lib.hid hc
  have HB : Hid (Below w.heap.size w w1) := Lib.hid (bel_trans hb0 hb1)
  clear hc hK hC hP hB hv hb0 hb1
  have HW := Lib.hid (ctWindow_rate K w1)
  have HK := Lib.hid (ctBucket_rate HC.out)
  have HR := Lib.hid (ctRate_rate HC.out)
  have HT : Hid (Calls Tryz.prog 34 #[.pointer (some ⟨C, 0, none⟩)] w1 fun e w' => e = .returned (.int .u64 ((64 * S : Nat) : Int)) ∧ w1 = w') := Lib.hid (tfRate_any (tfFirst S) (tfFirst_ok S h1 h2) _ C P v _ HC.out.tf)
  unfold crV at *
  have e1 := eqR_N
  have n1 := naR_Kind
  have n2 := meR_Kind
  have hw : IntKind.u64.wrap (S : Int) = (S : Int) := by rw [IntKind.wrap_u64]; omega
  have hw2 : IntKind.u64.wrap (64 * (S : Int)) = ((64 * S : Nat) : Int) := by rw [IntKind.wrap_u64]; omega
  go_wp2_with (first
    | (go_at_call 31; (with_reducible refine HW.out.mono ?_); rintro e w2 ⟨rfl, rfl⟩)
    | (go_at_call 32; (with_reducible refine HK.out.mono ?_); rintro e w2 ⟨rfl, rfl⟩)
    | (go_at_call 33; (with_reducible refine HR.out.mono ?_); rintro e w2 ⟨rfl, rfl⟩)
    | (go_at_call 34; (with_reducible refine HT.out.mono ?_); rintro e w2 ⟨rfl, rfl⟩)
    | (go_at_call 361; (with_reducible refine (crKind_any K _).mono ?_); rintro e w2 ⟨rfl, rfl⟩))
  go_ret
  exact ⟨rfl, HB.out⟩
set_option maxHeartbeats 8000000 in
set_option maxRecDepth 100000 in
theorem ctrlKinds_no (kind size : Int) (hk : kind ≠ 2 ∧ kind ≠ 3 ∨ size < 1 ∨ 1400 < size) (w : World)
    (hbg : Calls Tryz.prog 14 #[] w fun e w' => e = .returned (.bool true) ∧ Below w.heap.size w w') :
    Calls Tryz.prog 4 #[.int .i64 kind, .int .i64 size] w fun e w' => e = .returned (.bool true) ∧ Below w.heap.size w w' := by
  have HBG := Lib.hid hbg
  clear hbg
  have e1 := eqN_N
  go_enter Tryz.func4, Tryz.ntmps4
  go_upto_region 5 with (first
    | (go_at_call 14; (with_reducible refine HBG.out.mono ?_); rintro e w0 ⟨rfl, hb0⟩)
    | (go_at_call 30; (with_reducible refine (ctOf_no kind size hk _).mono ?_); rintro e w1 ⟨rfl, rfl⟩))
  have HB := Lib.hid hb0
  clear hb0
  by_cases h1 : 1 ≤ size
  · by_cases h2 : size ≤ 1400
    · have h3 : kind ≠ 2 := by omega
      have h4 : kind ≠ 3 := by omega
      have b3 : (kind == 2) = false := beq_eq_false_iff_ne.2 h3
      have b4 : (kind == 3) = false := beq_eq_false_iff_ne.2 h4
      go_wp2
      go_ret
      exact ⟨rfl, HB.out⟩
    · go_wp2
      go_ret
      exact ⟨rfl, HB.out⟩
  · go_wp2
    go_ret
    exact ⟨rfl, HB.out⟩
theorem ctrlKinds_walk (kind size : Int) (w : World)
    (hbg : Calls Tryz.prog 14 #[] w fun e w' => e = .returned (.bool true) ∧ Below w.heap.size w w') :
    Calls Tryz.prog 4 #[.int .i64 kind, .int .i64 size] w fun e w' => e = .returned (.bool true) ∧ Below w.heap.size w w' := by
  by_cases h : kind ≠ 2 ∧ kind ≠ 3 ∨ size < 1 ∨ 1400 < size
  · exact ctrlKinds_no kind size h w hbg
  · obtain ⟨S, rfl⟩ : ∃ S : Nat, size = (S : Int) := ⟨size.toNat, by omega⟩
    by_cases h2 : kind = 2
    · subst h2
      exact ctrlKinds_win S (by omega) (by omega) (by omega) (by omega) w hbg
    · obtain rfl : kind = 3 := by omega
      exact ctrlKinds_rate S (by omega) (by omega) w hbg
end Go.Proofs.YtnhlachoimlhhaaGreatDoor
