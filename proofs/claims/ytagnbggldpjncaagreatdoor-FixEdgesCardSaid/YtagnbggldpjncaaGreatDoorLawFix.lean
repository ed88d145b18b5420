/-
  The laws on package fix, walked: each answers true, and nothing that was there has turned.
-/
import Derived.Test.YtagnbggldpjncaaGreatDoorFixE
import Derived.Test.YtagnbggldpjncaaGreatDoorBel
import Derived.Test.YtagnbggldpjncaaGreatDoorBegun
import Derived.Deep.RegionWith
namespace Go.Proofs.YtagnbggldpjncaaGreatDoor
open Go.ChangeShapes Go.WideShapes Go.ChangeAt Go.RowKit
set_option linter.unusedVariables false

theorem fixAll_walk (a b c : Nat) (ha : a < 18446744073709551616) (hb : b < 18446744073709551616) (hc : c < 18446744073709551616) (w : World) :
    Calls Tryz.prog 3 #[.int .u64 a, .int .u64 b, .int .u64 c] w fun e w' => e = .returned (.bool true) ∧ Below w.heap.size w w' := by
  go_enter Tryz.func3, Tryz.ntmps3
  go_wp2_with (first
    | (go_at_call 15; refine (begun_any _).mono ?_; rintro e w0 ⟨rfl, hb0⟩)
    | (go_at_call 16; refine (fixSum_any a b ha hb _).mono ?_; rintro e w1 ⟨rfl, rfl⟩)
    | (go_at_call 17; refine (fixAdd_any a b ha hb _).mono ?_; rintro e w1 ⟨rfl, rfl⟩)
    | (go_at_call 18; refine (fixSub_any a b ha hb _).mono ?_; rintro e w1 ⟨rfl, rfl⟩)
    | (go_at_call 19; refine (refSub_any a b ha hb _).mono ?_; rintro e w1 ⟨rfl, rfl⟩)
    | (go_at_call 20; refine (fixMul_any a b ha hb _).mono ?_; rintro e w1 ⟨rfl, rfl⟩)
    | (go_at_call 21; refine (refMul_any a b ha hb _).mono ?_; rintro e w1 ⟨rfl, rfl⟩)
    | (go_at_call 22; refine (fixMulDiv_any a b c ha hb hc _).mono ?_; rintro e w1 ⟨rfl, n, rfl⟩)
    | (go_at_call 23; refine (refMulDiv_any a b c ha hb hc _).mono ?_; rintro e w1 ⟨rfl, rfl⟩)
    | (go_at_call 24; refine (fixSqrt_any a ha _).mono ?_; rintro e w1 ⟨rfl, rfl⟩)
    | (go_at_call 25; refine (refSqrt_any a ha _).mono ?_; rintro e w1 ⟨rfl, rfl⟩)
    | (go_at_call 26; refine (fixSqrtMul_any a b ha hb _).mono ?_; rintro e w1 ⟨rfl, rfl⟩)
    | (go_at_call 27; refine (refSqrtMul_any a b ha hb _).mono ?_; rintro e w1 ⟨rfl, rfl⟩))
  go_ret
  exact ⟨rfl, bel_trans hb0 (bel_drewN _ _)⟩

theorem isq_self (a : Nat) (h : a < 18446744073709551616) : M.isq (a * a) = a := by
  have h2 := Nat.mul_le_mul (show a ≤ 18446744073709551615 by omega) (show a ≤ 18446744073709551615 by omega)
  exact M.isq_eq (by omega) (Nat.le_refl _) (by rw [Nat.add_mul, Nat.mul_add]; omega)

theorem fixRoot_walk (a b : Nat) (ha : a < 18446744073709551616) (hb : b < 18446744073709551616) (w : World) :
    Calls Tryz.prog 4 #[.int .u64 a, .int .u64 b] w fun e w' => e = .returned (.bool true) ∧ Below w.heap.size w w' := by
  obtain ⟨h, l, hp, hh, hl⟩ := M.halves a b ha hb
  have hlt : a * b < 18446744073709551616 * 18446744073709551616 := by omega
  obtain ⟨r1, r2⟩ := M.isq_spec (a * b) hlt
  have r3 := M.isq_lt (a * b) hlt
  have HS := Lib.hid (fun w => fixSqrtMul_any a b ha hb w)
  have HS2 := Lib.hid (fun w => fixSqrtMul_any b a hb ha w)
  rw [Nat.mul_comm b a] at HS2
  have HS3 := Lib.hid (fun w => fixSqrtMul_any a a ha ha w)
  rw [isq_self a ha] at HS3
  have HW := Lib.hid (fun w => wide_at ha hb hp hl w)
  generalize M.isq (a * b) = r at *
  obtain ⟨x, y, hx, hx1, hy1⟩ := M.halves r r r3 r3
  have HW1 := Lib.hid (fun w => wide_at r3 r3 hx hy1 w)
  have HO := Lib.hid (fun w => over_any x y h l hx1 hy1 hh hl w)
  have ho : M.over x y h l = false := decide_eq_false (by rw [← hp, ← hx]; omega)
  rw [ho] at HO
  by_cases ht : r = 18446744073709551615
  · have htb : (((r : Nat) : Int) == 18446744073709551615) = true := by rw [beq_iff_eq]; omega
    clear hp hx ho ht r1 r2
    go_enter Tryz.func4, Tryz.ntmps4
    go_wp2_with fail
    refine (begun_any _).mono ?_
    rintro e w0 ⟨rfl, hb0⟩
    go_wp2_with fail
    refine (HS.out _).mono ?_
    rintro e w1 ⟨rfl, rfl⟩
    go_wp2_with fail
    refine (HW.out _).mono ?_
    rintro e w1 ⟨rfl, rfl⟩
    go_wp2_with fail
    refine (HW1.out _).mono ?_
    rintro e w1 ⟨rfl, rfl⟩
    go_wp2_with fail
    refine (HO.out _).mono ?_
    rintro e w1 ⟨rfl, rfl⟩
    go_wp2_with fail
    go_ret
    exact ⟨rfl, hb0⟩
  · have htb : (((r : Nat) : Int) == 18446744073709551615) = false := by rw [beq_eq_false_iff_ne]; omega
    have r4 : r + 1 < 18446744073709551616 := by omega
    obtain ⟨x2, y2, hx2, hx3, hy3⟩ := M.halves (r + 1) (r + 1) r4 r4
    have HW2 := Lib.hid (fun w => wide_at r4 r4 hx2 hy3 w)
    rw [Int.natCast_add] at HW2
    have HO2 := Lib.hid (fun w => over_any x2 y2 h l hx3 hy3 hh hl w)
    have ho2 : M.over x2 y2 h l = true := decide_eq_true (by rw [← hp, ← hx2]; exact r2)
    rw [ho2] at HO2
    clear hp hx ho ht r1 r2 hx2 ho2
    go_enter Tryz.func4, Tryz.ntmps4
    go_wp2_with fail
    refine (begun_any _).mono ?_
    rintro e w0 ⟨rfl, hb0⟩
    go_wp2_with fail
    refine (HS.out _).mono ?_
    rintro e w1 ⟨rfl, rfl⟩
    go_wp2_with fail
    refine (HW.out _).mono ?_
    rintro e w1 ⟨rfl, rfl⟩
    go_wp2_with fail
    refine (HW1.out _).mono ?_
    rintro e w1 ⟨rfl, rfl⟩
    go_wp2_with fail
    refine (HO.out _).mono ?_
    rintro e w1 ⟨rfl, rfl⟩
    go_wp2_with fail
    refine (HW2.out _).mono ?_
    rintro e w1 ⟨rfl, rfl⟩
    go_wp2_with fail
    refine (HO2.out _).mono ?_
    rintro e w1 ⟨rfl, rfl⟩
    go_wp2_with fail
    refine (HS.out _).mono ?_
    rintro e w1 ⟨rfl, rfl⟩
    go_wp2_with fail
    refine (HS2.out _).mono ?_
    rintro e w1 ⟨rfl, rfl⟩
    go_wp2_with fail
    refine (HS3.out _).mono ?_
    rintro e w1 ⟨rfl, rfl⟩
    go_wp2_with fail
    go_ret
    exact ⟨rfl, hb0⟩

theorem muldiv_comm (a b c : Nat) : M.mulDivT a b c = M.mulDivT b a c := by unfold M.mulDivT; rw [Nat.mul_comm]
theorem muldiv_self (a c : Nat) (ha : a < 18446744073709551616) (hc : 0 < c) : M.mulDivT a c c = a := by
  unfold M.mulDivT; rw [if_neg (by omega), Nat.mul_div_cancel _ hc, if_pos ha]

theorem fixQuot_walk (a b c : Nat) (ha : a < 18446744073709551616) (hb : b < 18446744073709551616) (hc : c < 18446744073709551616) (w : World) :
    Calls Tryz.prog 5 #[.int .u64 a, .int .u64 b, .int .u64 c] w fun e w' => e = .returned (.bool true) ∧ Below w.heap.size w w' := by
  obtain ⟨h, l, hp, hh, hl⟩ := M.halves a b ha hb
  have HW := Lib.hid (fun w => wide_at ha hb hp hl w)
  have HM := Lib.hid (fun w => fixMulDiv_any a b c ha hb hc w)
  have HM2 := Lib.hid (fun w => fixMulDiv_any b a c hb ha hc w)
  rw [muldiv_comm b a c] at HM2
  by_cases h0 : c = 0
  · subst h0
    rw [M.mulDivT_zero] at HM
    clear hp
    go_enter Tryz.func5, Tryz.ntmps5
    go_wp2_with fail
    refine (begun_any _).mono ?_
    rintro e w0 ⟨rfl, hb0⟩
    go_wp2_with fail
    refine (HM.out _).mono ?_
    rintro e w1 ⟨rfl, n, rfl⟩
    go_wp2_with fail
    refine (HW.out _).mono ?_
    rintro e w1 ⟨rfl, rfl⟩
    go_wp2_with fail
    go_ret
    exact ⟨by first | rfl | simp, bel_trans hb0 (bel_drewN _ _)⟩
  have h0b : (((c : Nat) : Int) == 0) = false := by rw [beq_eq_false_iff_ne]; omega
  have HM3 := Lib.hid (fun w => fixMulDiv_any a c c ha hc hc w)
  rw [muldiv_self a c ha (by omega)] at HM3
  have hq : M.mulDivT a b c < 18446744073709551616 ∧ M.mulDivT a b c * c ≤ a * b ∧ (M.mulDivT a b c ≠ 18446744073709551615 → a * b < (M.mulDivT a b c + 1) * c) := by
    unfold M.mulDivT
    rw [if_neg h0]
    have hm := Nat.div_mul_le_self (a * b) c
    have hd := Nat.lt_div_mul_add (a := a * b) (show 0 < c by omega)
    split
    · rename_i hlt
      refine ⟨hlt, hm, fun _ => ?_⟩
      rw [Nat.add_mul, Nat.one_mul]; exact hd
    · rename_i hge
      refine ⟨by decide, ?_, fun h => absurd rfl h⟩
      exact Nat.le_trans (Nat.mul_le_mul_right c (by omega)) hm
  obtain ⟨q1, q2, q3⟩ := hq
  generalize M.mulDivT a b c = q at *
  obtain ⟨x, y, hx, hx1, hy1⟩ := M.halves q c q1 hc
  have HW1 := Lib.hid (fun w => wide_at q1 hc hx hy1 w)
  have HO := Lib.hid (fun w => over_any x y h l hx1 hy1 hh hl w)
  have ho : M.over x y h l = false := decide_eq_false (by rw [← hp, ← hx]; omega)
  rw [ho] at HO
  by_cases ht : q = 18446744073709551615
  · have htb : (((q : Nat) : Int) == 18446744073709551615) = true := by rw [beq_iff_eq]; omega
    clear hp hx ho ht q2 q3 h0
    go_enter Tryz.func5, Tryz.ntmps5
    go_wp2_with fail
    refine (begun_any _).mono ?_
    rintro e w0 ⟨rfl, hb0⟩
    go_wp2_with fail
    refine (HM.out _).mono ?_
    rintro e w1 ⟨rfl, n, rfl⟩
    go_wp2_with fail
    refine (HW.out _).mono ?_
    rintro e w1 ⟨rfl, rfl⟩
    go_wp2_with fail
    refine (HW1.out _).mono ?_
    rintro e w1 ⟨rfl, rfl⟩
    go_wp2_with fail
    refine (HO.out _).mono ?_
    rintro e w1 ⟨rfl, rfl⟩
    go_wp2_with fail
    go_ret
    exact ⟨rfl, bel_trans hb0 (bel_drewN _ _)⟩
  · have htb : (((q : Nat) : Int) == 18446744073709551615) = false := by rw [beq_eq_false_iff_ne]; omega
    have r4 : q + 1 < 18446744073709551616 := by omega
    obtain ⟨x2, y2, hx2, hx3, hy3⟩ := M.halves (q + 1) c r4 hc
    have HW2 := Lib.hid (fun w => wide_at r4 hc hx2 hy3 w)
    rw [Int.natCast_add] at HW2
    have HO2 := Lib.hid (fun w => over_any x2 y2 h l hx3 hy3 hh hl w)
    have ho2 : M.over x2 y2 h l = true := decide_eq_true (by rw [← hp, ← hx2]; exact q3 ht)
    rw [ho2] at HO2
    clear hp hx ho ht q2 q3 hx2 ho2 h0
    go_enter Tryz.func5, Tryz.ntmps5
    go_wp2_with fail
    refine (begun_any _).mono ?_
    rintro e w0 ⟨rfl, hb0⟩
    go_wp2_with fail
    refine (HM.out _).mono ?_
    rintro e w1 ⟨rfl, n, rfl⟩
    go_wp2_with fail
    refine (HW.out _).mono ?_
    rintro e w1 ⟨rfl, rfl⟩
    go_wp2_with fail
    refine (HW1.out _).mono ?_
    rintro e w1 ⟨rfl, rfl⟩
    go_wp2_with fail
    refine (HO.out _).mono ?_
    rintro e w1 ⟨rfl, rfl⟩
    go_wp2_with fail
    refine (HW2.out _).mono ?_
    rintro e w1 ⟨rfl, rfl⟩
    go_wp2_with fail
    refine (HO2.out _).mono ?_
    rintro e w1 ⟨rfl, rfl⟩
    go_wp2_with fail
    refine (HM2.out _).mono ?_
    rintro e w1 ⟨rfl, n2, rfl⟩
    go_wp2_with fail
    refine (HM3.out _).mono ?_
    rintro e w1 ⟨rfl, n3, rfl⟩
    go_wp2_with fail
    go_ret
    exact ⟨rfl, bel_trans hb0 (bel_drewN _ _)⟩
end Go.Proofs.YtagnbggldpjncaaGreatDoor
