/-
  What the quotients of products come to.
-/
import Derived.Test.YtagnbggldpjncaaGreatDoorFixC
namespace Go.Proofs.YtagnbggldpjncaaGreatDoor
open Go.ChangeShapes Go.WideShapes Go.ChangeAt Go.RowKit
set_option linter.unusedVariables false

set_option maxRecDepth 100000 in
theorem refMulDiv_any (a b c : Nat) (ha : a < 18446744073709551616) (hb : b < 18446744073709551616) (hc : c < 18446744073709551616) (w : World) :
    Calls Tryz.prog 23 #[.int .u64 a, .int .u64 b, .int .u64 c] w fun e w' => e = .returned (.int .u64 (M.mulDivT a b c)) ∧ w = w' := by
  obtain ⟨h, l, hp, hh, hl⟩ := M.halves a b ha hb
  have HM := Lib.hid (fun w => wide_at ha hb hp hl w)
  have HT := Lib.hid (fun h0 hc => M.mulDivT_top (c := c) hp h0 hc)
  have HQ := Lib.hid (fun hc => M.mulDivT_quot (c := c) hp hc hl)
  clear hp
  by_cases h0 : c = 0
  · subst h0
    go_enter Tryz.func23, Tryz.ntmps23
    go_wp2_with fail
    refine (HM.out _).mono ?_
    rintro e w' ⟨rfl, rfl⟩
    go_wp2
    go_ret
    exact ⟨M.ret_int (by rw [M.mulDivT_zero]; rfl), rfl⟩
  have h0' : (((c : Nat) : Int) == 0) = false := by rw [beq_eq_false_iff_ne]; omega
  by_cases hch : c ≤ h
  · go_enter Tryz.func23, Tryz.ntmps23
    go_wp2_with fail
    refine (HM.out _).mono ?_
    rintro e w' ⟨rfl, rfl⟩
    go_wp2
    go_ret
    exact ⟨M.ret_int (by rw [HT.out (by omega) hch]; rfl), rfl⟩
  · have hhc : h < c := by omega
    have hch2 : decide (c ≤ h) = false := decide_eq_false hch
    have HS := Lib.hid (M.div_start hhc hl)
    go_enter Tryz.func23, Tryz.ntmps23
    go_wp2_with fail
    refine (HM.out _).mono ?_
    rintro e w' ⟨rfl, rfl⟩
    go_wp2
    go_loop [9, 10, 11] (fun u v k => ∃ rest q kn : Nat, u = .int .u64 rest ∧ v = .int .u64 q ∧ k = .int .i64 ((kn : Int) - 1) ∧ kn ≤ 64 ∧ Hid (M.DivAt h l c kn rest q)) (fun _ _ k => (intOf k + 1).toNat)
    case atStart => exact ⟨h, 0, 64, rfl, rfl, by go_num, by omega, HS⟩
    case round =>
      obtain ⟨rest, q, kn, rfl, rfl, rfl, hk, hi⟩ := hrel
      rcases kn with _ | k
      · go_wp2
        go_ret
        exact ⟨M.ret_int (by rw [HQ.out hhc, M.div_end hi.out]), rfl⟩
      · obtain ⟨hr, hq, hy, hn⟩ := M.div_step (by omega) hi.out hhc hl hc
        have HY := Lib.hid hy; have HN := Lib.hid hn; clear hy hn
        have hb : l / 2 ^ k % 2 < 2 := Nat.mod_lt _ (by decide)
        have e1 : ((l : Int) / 2 ^ k).tmod 2 = ((l / 2 ^ k % 2 : Nat) : Int) := by
          rw [show ((l : Int) / 2 ^ k) = ((l / 2 ^ k : Nat) : Int) from by simp]
          generalize l / 2 ^ k = m
          rw [Int.tmod_eq_emod_of_nonneg (by omega)]; omega
        generalize l / 2 ^ k % 2 = bit at *
        by_cases h63 : 9223372036854775808 ≤ rest
        · have hd : decide (9223372036854775808 ≤ (rest : Int)) = true := decide_eq_true (by omega)
          obtain ⟨r2, hr2⟩ : ∃ r2, 2 * rest = r2 + 18446744073709551616 := ⟨2 * rest - 18446744073709551616, by omega⟩
          have e2 : IntKind.u64.wrap ((rest : Int) * 2) = ((r2 : Nat) : Int) := by rw [IntKind.wrap_u64]; omega
          have hr2l : r2 + 2 ≤ 18446744073709551616 := by omega
          have HR := Lib.hid hr2; clear hr2
          have HL := Lib.hid h63; clear h63
          go_wp2
          go_round
          case rel => exact ⟨2 * rest + bit - c, 2 * q + 1, k, by rw [IntKind.wrap_u64]; congr 1; have := HR.out; omega, by congr 1; omega, by go_num, by omega, Lib.hid (HY.out (by have := HL.out; omega))⟩
          case measure => simp [intOf]
        · have hd : decide (9223372036854775808 ≤ (rest : Int)) = false := decide_eq_false (by omega)
          have hl : 2 * rest + 2 ≤ 18446744073709551616 := by omega
          by_cases ht : c ≤ rest * 2 + bit
          · have hd2 : decide ((c : Int) ≤ (rest : Int) * 2 + (bit : Int)) = true := decide_eq_true (by omega)
            clear h63
            go_wp2
            go_round
            case rel => exact ⟨2 * rest + bit - c, 2 * q + 1, k, by congr 1; omega, by congr 1; omega, by go_num, by omega, Lib.hid (HY.out (by omega))⟩
            case measure => simp [intOf]
          · have hd2 : decide ((c : Int) ≤ (rest : Int) * 2 + (bit : Int)) = false := decide_eq_false (by omega)
            clear h63
            go_wp2
            go_round
            case rel => exact ⟨2 * rest + bit, 2 * q, k, by congr 1; omega, by congr 1; omega, by go_num, by omega, Lib.hid (HN.out (by omega))⟩
            case measure => simp [intOf]
end Go.Proofs.YtagnbggldpjncaaGreatDoor
