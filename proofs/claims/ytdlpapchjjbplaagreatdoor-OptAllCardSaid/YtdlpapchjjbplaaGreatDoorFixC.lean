/-
  What the roots come to.
-/
import Derived.Test.YtdlpapchjjbplaaGreatDoorFixB
namespace Go.Proofs.YtdlpapchjjbplaaGreatDoor
open Go.ChangeShapes Go.WideShapes Go.ChangeAt Go.RowKit
set_option linter.unusedVariables false

theorem fixSqrtMul_any (a b : Nat) (ha : a < 18446744073709551616) (hb : b < 18446744073709551616) (w : World) :
    Calls Tryz.prog 82 #[.int .u64 a, .int .u64 b] w fun e w' => e = .returned (.int .u64 (M.isq (a * b))) ∧ w = w' := by
  obtain ⟨q, r, hp, hq, hr⟩ := M.halves a b ha hb
  have HM := Lib.hid (fun w => mul64_at ha hb hp hr w)
  rw [hp]
  clear hp
  obtain ⟨hl1, hl2⟩ := M.plen_spec q r hq hr
  have HL2 := Lib.hid hl2; clear hl2
  go_enter Tryz.func82, Tryz.ntmps82
  go_wp2_with fail
  refine (HM.out _).mono ?_
  rintro e w' ⟨rfl, rfl⟩
  go_wp2_with fail
  refine (productLen_any q r hq hr _).mono ?_
  rintro e w' ⟨rfl, rfl⟩
  generalize M.plen q r = L at *
  go_wp2
  go_loop [7, 8] (fun u k => ∃ un kn : Nat, u = .int .u64 un ∧ k = .int .i64 kn ∧ kn ≤ 64 ∧ Hid (M.RootAt (q * 18446744073709551616 + r) un kn)) (fun _ k => (intOf k).toNat)
  case atStart => exact ⟨0, (L + 1) / 2, rfl, by go_num, by omega, Lib.hid (M.root_start _ _ (by omega) (Nat.lt_of_lt_of_le HL2.out (Nat.pow_le_pow_right (by decide) (by omega))))⟩
  case round =>
    obtain ⟨un, kn, rfl, rfl, hk, hi⟩ := hrel
    rcases kn with _ | kn
    · go_wp2
      go_ret
      exact ⟨M.ret_int (by rw [M.root_end hi.out (by omega)]), rfl⟩
    · have ho := M.or_bit (r := un) (k := kn) (by omega) hi.out.even hi.out.small
      have hs := hi.out.small
      have hlt : un + 2 ^ kn < 18446744073709551616 := by have := Nat.two_pow_pos kn; rw [Nat.pow_succ] at hs; omega
      have hy := Lib.hid (fun ht => M.root_yes hi.out ht)
      have hn := Lib.hid (fun ht => M.root_no hi.out ht)
      clear hs
      generalize un + 2 ^ kn = t at *
      have HC := Lib.hid (fun w => squareFits_any t q r hlt hq hr w)
      by_cases ht : t * t ≤ q * 18446744073709551616 + r
      · have hd : decide (t * t ≤ q * 18446744073709551616 + r) = true := decide_eq_true ht
        rw [hd] at HC
        clear hd
        have HT := Lib.hid ht; clear ht
        go_wp2_with fail
        refine (HC.out _).mono ?_
        rintro e w' ⟨rfl, rfl⟩
        go_wp2
        go_round
        case rel => exact ⟨t, kn, rfl, by go_num, by omega, Lib.hid (hy.out HT.out)⟩
        case measure => simp [intOf]
      · have hd : decide (t * t ≤ q * 18446744073709551616 + r) = false := decide_eq_false ht
        rw [hd] at HC
        clear hd
        have HT := Lib.hid ht; clear ht
        go_wp2_with fail
        refine (HC.out _).mono ?_
        rintro e w' ⟨rfl, rfl⟩
        go_wp2
        go_round
        case rel => exact ⟨un, kn, rfl, by go_num, by omega, Lib.hid (hn.out HT.out)⟩
        case measure => simp [intOf]

theorem fixSqrt_any (a : Nat) (ha : a < 18446744073709551616) (w : World) :
    Calls Tryz.prog 48 #[.int .u64 a] w fun e w' => e = .returned (.int .u64 (M.isq a)) ∧ w = w' := by
  have H := Lib.hid (fun w => fixSqrtMul_any a 1 ha (by omega) w)
  rw [Nat.mul_one] at H
  go_enter Tryz.func48, Tryz.ntmps48
  go_wp2_with fail
  refine (H.out _).mono ?_
  rintro e w' ⟨rfl, rfl⟩
  go_wp2
  go_ret
  exact ⟨rfl, rfl⟩
end Go.Proofs.YtdlpapchjjbplaaGreatDoor
