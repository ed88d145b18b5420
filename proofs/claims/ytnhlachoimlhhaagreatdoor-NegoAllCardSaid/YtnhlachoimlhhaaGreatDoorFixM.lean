/-
  What the functions of package fix and their neighbours answer: products in halves, the comparison of pairs, sums that stop at the greatest word.
  What the roots and quotients of package fix and of the document's own answers come to.
  What the roots come to.
  What the quotients of products come to.
  What math/bits.Div64 and the quotients of package fix come to.
-/
import Derived.Test.YtnhlachoimlhhaaGreatDoorChecked
import Derived.Test.YtnhlachoimlhhaaGreatDoorMatW
import Derived.WalkKit
import Derived.ProofKit
import Derived.OpenShut
import Derived.Test.YtnhlachoimlhhaaGreatDoorShelf
import Derived.LoopTactic
import Derived.Outline
import Derived.RegionTactic
import Derived.ChangeAlike
import Derived.Deep.QuietTactic
import Derived.BigQuiet
import Derived.Deep.CutBlock
import Derived.Deep.DeepCutAuto
namespace Go.Proofs.YtnhlachoimlhhaaGreatDoor
open Go.ChangeShapes Go.WideShapes Go.ChangeAt Go.RowKit
set_option linter.unusedVariables false

theorem wide_any (a b : Nat) (ha : a < 18446744073709551616) (hb : b < 18446744073709551616) (w : World) :
    Calls Tryz.prog 90 #[.int .u64 a, .int .u64 b] w fun e w' => e = .returned (.tuple #[.int .u64 ((a * b / 18446744073709551616 : Nat) : Int), .int .u64 ((a * b % 18446744073709551616 : Nat) : Int)]) ∧ w = w' := by
  obtain ⟨h1, h2, h3, h4, h5, h6, h7, h8⟩ := M.prods a b ha hb
  have E1 := Lib.hid (M.wide_hiI a b)
  have E2 := Lib.hid (M.wide_loI a b)
  go_enter Tryz.func90, Tryz.ntmps90
  go_wp2
  go_ret2
  exact ⟨M.ret_ints (by have := E1.out; simp; omega) (by have := E2.out; simp; omega), rfl⟩

theorem mul64_any (a b : Nat) (ha : a < 18446744073709551616) (hb : b < 18446744073709551616) (w : World) :
    Calls Tryz.prog 120 #[.int .u64 a, .int .u64 b] w fun e w' => e = .returned (.tuple #[.int .u64 ((a * b / 18446744073709551616 : Nat) : Int), .int .u64 ((a * b % 18446744073709551616 : Nat) : Int)]) ∧ w = w' := by
  obtain ⟨h1, h2, h3, h4, h5, h6, h7, h8⟩ := M.prods a b ha hb
  have E1 := Lib.hid (M.wide_hiI a b)
  have hm := M.and32
  go_enter Tryz.func120, Tryz.ntmps120
  go_wp2
  go_ret2
  exact ⟨M.ret_ints (by have := E1.out; simp; omega) (by simp [IntKind.wrap_u64]), rfl⟩

theorem squareFits_any (n h l : Nat) (hn : n < 18446744073709551616) (hh : h < 18446744073709551616) (hl : l < 18446744073709551616) (w : World) :
    Calls Tryz.prog 277 #[.int .u64 n, .int .u64 h, .int .u64 l] w fun e w' => e = .returned (.bool (decide (n * n ≤ h * 18446744073709551616 + l))) ∧ w = w' := by
  have hx := Nat.div_add_mod (n * n) 18446744073709551616
  generalize hp : n * n = p at *
  generalize hq : p / 18446744073709551616 = q at *
  generalize hr : p % 18446744073709551616 = r at *
  have HX := Lib.hid hx; have HP := Lib.hid hp; have HQ := Lib.hid hq; have HR := Lib.hid hr; have HL : r < 18446744073709551616 := by omega
  clear hx hp hq hr
  by_cases h1 : q < h
  · go_enter Tryz.func277, Tryz.ntmps277
    go_wp2_with fail
    refine (mul64_any n n hn hn _).mono ?_
    rintro e w' ⟨rfl, rfl⟩
    rw [HP.out, HQ.out, HR.out]
    go_wp2
    go_ret
    exact ⟨M.ret_bool (by have := HX.out; rw [Bool.eq_iff_iff]; simp; omega), rfl⟩
  · by_cases h2 : q = h
    · subst h2
      go_enter Tryz.func277, Tryz.ntmps277
      go_wp2_with fail
      refine (mul64_any n n hn hn _).mono ?_
      rintro e w' ⟨rfl, rfl⟩
      rw [HP.out, HQ.out, HR.out]
      go_wp2
      go_ret
      exact ⟨M.ret_bool (by have := HX.out; rw [Bool.eq_iff_iff]; simp; omega), rfl⟩
    · have h3 : (((q : Nat) : Int) == h) = false := by rw [beq_eq_false_iff_ne]; omega
      go_enter Tryz.func277, Tryz.ntmps277
      go_wp2_with fail
      refine (mul64_any n n hn hn _).mono ?_
      rintro e w' ⟨rfl, rfl⟩
      rw [HP.out, HQ.out, HR.out]
      go_wp2
      go_ret
      exact ⟨M.ret_bool (by have := HX.out; rw [Bool.eq_iff_iff]; simp; omega), rfl⟩

end Go.Proofs.YtnhlachoimlhhaaGreatDoor

namespace Go.Proofs.YtnhlachoimlhhaaGreatDoor
open Go.ChangeShapes Go.WideShapes Go.ChangeAt Go.RowKit
set_option linter.unusedVariables false

theorem add64_run (x y : Nat) (hx : x < 18446744073709551616) (hy : y < 18446744073709551616) (w : World) :
    (callFunc 119 #[.int .u64 x, .int .u64 y, .int .u64 0]).run Tryz.prog w =
      .ok (.value (.tuple #[.int .u64 (((x + y) % 18446744073709551616 : Nat) : Int), .int .u64 (((x + y) / 18446744073709551616 : Nat) : Int)])) w := by
  have h := run_add64 x y 0 (by omega) (by omega) (by omega) (by omega) (P := Tryz.prog) (w := w)
  rw [run_callFunc_extern Tryz.func119 (by kernel_rfl) (by kernel_rfl) (by kernel_rfl) (e := add64Entry) (by kernel_rfl)]
  erw [h]
  simp only [Result.andThen]
  congr 5 <;> omega

theorem fixSum_any (a b : Nat) (ha : a < 18446744073709551616) (hb : b < 18446744073709551616) (w : World) :
    Calls Tryz.prog 87 #[.int .u64 a, .int .u64 b] w fun e w' => e = .returned (.int .u64 (M.addT a b)) ∧ w = w' := by
  have he : M.addT a b = if a + b < 18446744073709551616 then a + b else 18446744073709551615 := rfl
  have HE := Lib.hid he; clear he
  have hr := add64_run a b ha hb
  by_cases h : a + b < 18446744073709551616
  · have h1 : (((a + b) / 18446744073709551616 : Nat) : Int) = 0 := by omega
    have h2 : (((a + b) % 18446744073709551616 : Nat) : Int) = ((a + b : Nat) : Int) := by omega
    rw [h1, h2] at hr
    go_enter Tryz.func87, Tryz.ntmps87
    go_wp2
    go_ret
    exact ⟨M.ret_int (by rw [HE.out, if_pos (by omega)]; rfl), rfl⟩
  · have h1 : (((a + b) / 18446744073709551616 : Nat) : Int) = 1 := by omega
    rw [h1] at hr
    go_enter Tryz.func87, Tryz.ntmps87
    go_wp2
    go_ret
    exact ⟨M.ret_int (by rw [HE.out, if_neg (by omega)]; simp), rfl⟩

theorem productLen_any (h l : Nat) (hh : h < 18446744073709551616) (hl : l < 18446744073709551616) (w : World) :
    Calls Tryz.prog 276 #[.int .u64 h, .int .u64 l] w fun e w' => e = .returned (.int .i64 (M.plen h l)) ∧ w = w' := by
  have hb1 := (M.bitLen_spec h hh).2.1
  have hb2 := (M.bitLen_spec l hl).2.1
  by_cases h0 : h = 0
  · subst h0
    go_enter Tryz.func276, Tryz.ntmps276
    go_wp2_with fail
    refine (Tryz.bits_Len64 l _ (by omega) (by omega)).mono ?_
    rintro e w' ⟨rfl, rfl⟩
    go_wp2
    go_ret
    exact ⟨M.ret_int (by simp [M.plen]), rfl⟩
  · have h1 : (((h : Nat) : Int) != 0) = true := by rw [bne_iff_ne]; omega
    have H0 := Lib.hid h0; clear h0
    go_enter Tryz.func276, Tryz.ntmps276
    go_wp2_with fail
    refine (Tryz.bits_Len64 h _ (by omega) (by omega)).mono ?_
    rintro e w' ⟨rfl, rfl⟩
    go_wp2
    go_ret
    exact ⟨M.ret_int (by simp [M.plen, H0.out]), rfl⟩

theorem mul64_at {a b q r : Nat} (ha : a < 18446744073709551616) (hb : b < 18446744073709551616) (h : a * b = q * 18446744073709551616 + r) (hr : r < 18446744073709551616) (w : World) :
    Calls Tryz.prog 120 #[.int .u64 a, .int .u64 b] w fun e w' => e = .returned (.tuple #[.int .u64 q, .int .u64 r]) ∧ w = w' := by
  have := mul64_any a b ha hb w
  rw [M.half_hi h hr, M.half_lo h hr] at this
  exact this
theorem wide_at {a b q r : Nat} (ha : a < 18446744073709551616) (hb : b < 18446744073709551616) (h : a * b = q * 18446744073709551616 + r) (hr : r < 18446744073709551616) (w : World) :
    Calls Tryz.prog 90 #[.int .u64 a, .int .u64 b] w fun e w' => e = .returned (.tuple #[.int .u64 q, .int .u64 r]) ∧ w = w' := by
  have := wide_any a b ha hb w
  rw [M.half_hi h hr, M.half_lo h hr] at this
  exact this
end Go.Proofs.YtnhlachoimlhhaaGreatDoor

namespace Go.Proofs.YtnhlachoimlhhaaGreatDoor
open Go.ChangeShapes Go.WideShapes Go.ChangeAt Go.RowKit
set_option linter.unusedVariables false

theorem fixSqrtMul_any (a b : Nat) (ha : a < 18446744073709551616) (hb : b < 18446744073709551616) (w : World) :
    Calls Tryz.prog 241 #[.int .u64 a, .int .u64 b] w fun e w' => e = .returned (.int .u64 (M.isq (a * b))) ∧ w = w' := by
  obtain ⟨q, r, hp, hq, hr⟩ := M.halves a b ha hb
  have HM := Lib.hid (fun w => mul64_at ha hb hp hr w)
  rw [hp]
  clear hp
  obtain ⟨hl1, hl2⟩ := M.plen_spec q r hq hr
  have HL2 := Lib.hid hl2; clear hl2
  go_enter Tryz.func241, Tryz.ntmps241
  go_wp2_with fail
  refine (HM.out _).mono ?_
  rintro e w' ⟨rfl, rfl⟩
  go_wp2_with fail
  refine (productLen_any q r hq hr _).mono ?_
  rintro e w' ⟨rfl, rfl⟩
  generalize M.plen q r = L at *
  go_wp2
  go_loop [7, 8] (fun u k => ∃ un kn : Nat, u = .int .u64 un ∧ k = .int .i64 kn ∧ kn ≤ 64 ∧ Hid (M.RootAt (q * 18446744073709551616 + r) un kn)) (fun _ k => (intOf k).toNat)
  case atStart => exact ⟨0, (L + 1) / 2, rfl, by go_num, by omega, Lib.hid (M.root_start _ _ (by omega) (Nat.lt_of_lt_of_le HL2.out (Nat.pow_le_pow_right (by decide) (by omega))))⟩
  case round =>
    obtain ⟨un, kn, rfl, rfl, hk, hi⟩ := hrel
    rcases kn with _ | kn
    · go_wp2
      go_ret
      exact ⟨M.ret_int (by rw [M.root_end hi.out (by omega)]), rfl⟩
    · have ho := M.or_bit (r := un) (k := kn) (by omega) hi.out.even hi.out.small
      have hs := hi.out.small
      have hlt : un + 2 ^ kn < 18446744073709551616 := by have := Nat.two_pow_pos kn; rw [Nat.pow_succ] at hs; omega
      have hy := Lib.hid (fun ht => M.root_yes hi.out ht)
      have hn := Lib.hid (fun ht => M.root_no hi.out ht)
      clear hs
      generalize un + 2 ^ kn = t at *
      have HC := Lib.hid (fun w => squareFits_any t q r hlt hq hr w)
      by_cases ht : t * t ≤ q * 18446744073709551616 + r
      · have hd : decide (t * t ≤ q * 18446744073709551616 + r) = true := decide_eq_true ht
        rw [hd] at HC
        clear hd
        have HT := Lib.hid ht; clear ht
        go_wp2_with fail
        refine (HC.out _).mono ?_
        rintro e w' ⟨rfl, rfl⟩
        go_wp2
        go_round
        case rel => exact ⟨t, kn, rfl, by go_num, by omega, Lib.hid (hy.out HT.out)⟩
        case measure => simp [intOf]
      · have hd : decide (t * t ≤ q * 18446744073709551616 + r) = false := decide_eq_false ht
        rw [hd] at HC
        clear hd
        have HT := Lib.hid ht; clear ht
        go_wp2_with fail
        refine (HC.out _).mono ?_
        rintro e w' ⟨rfl, rfl⟩
        go_wp2
        go_round
        case rel => exact ⟨un, kn, rfl, by go_num, by omega, Lib.hid (hn.out HT.out)⟩
        case measure => simp [intOf]

theorem fixSqrt_any (a : Nat) (ha : a < 18446744073709551616) (w : World) :
    Calls Tryz.prog 209 #[.int .u64 a] w fun e w' => e = .returned (.int .u64 (M.isq a)) ∧ w = w' := by
  have H := Lib.hid (fun w => fixSqrtMul_any a 1 ha (by omega) w)
  rw [Nat.mul_one] at H
  go_enter Tryz.func209, Tryz.ntmps209
  go_wp2_with fail
  refine (H.out _).mono ?_
  rintro e w' ⟨rfl, rfl⟩
  go_wp2
  go_ret
  exact ⟨rfl, rfl⟩
end Go.Proofs.YtnhlachoimlhhaaGreatDoor

namespace Go.Proofs.YtnhlachoimlhhaaGreatDoor
open Go.ChangeShapes Go.WideShapes Go.ChangeAt Go.RowKit
set_option linter.unusedVariables false

set_option maxRecDepth 100000 in
theorem refMulDiv_any (a b c : Nat) (ha : a < 18446744073709551616) (hb : b < 18446744073709551616) (hc : c < 18446744073709551616) (w : World) :
    Calls Tryz.prog 49 #[.int .u64 a, .int .u64 b, .int .u64 c] w fun e w' => e = .returned (.int .u64 (M.mulDivT a b c)) ∧ w = w' := by
  obtain ⟨h, l, hp, hh, hl⟩ := M.halves a b ha hb
  have HM := Lib.hid (fun w => wide_at ha hb hp hl w)
  have HT := Lib.hid (fun h0 hc => M.mulDivT_top (c := c) hp h0 hc)
  have HQ := Lib.hid (fun hc => M.mulDivT_quot (c := c) hp hc hl)
  clear hp
  by_cases h0 : c = 0
  · subst h0
    go_enter Tryz.func49, Tryz.ntmps49
    go_wp2_with fail
    refine (HM.out _).mono ?_
    rintro e w' ⟨rfl, rfl⟩
    go_wp2
    go_ret
    exact ⟨M.ret_int (by rw [M.mulDivT_zero]; rfl), rfl⟩
  have h0' : (((c : Nat) : Int) == 0) = false := by rw [beq_eq_false_iff_ne]; omega
  by_cases hch : c ≤ h
  · go_enter Tryz.func49, Tryz.ntmps49
    go_wp2_with fail
    refine (HM.out _).mono ?_
    rintro e w' ⟨rfl, rfl⟩
    go_wp2
    go_ret
    exact ⟨M.ret_int (by rw [HT.out (by omega) hch]; rfl), rfl⟩
  · have hhc : h < c := by omega
    have hch2 : decide (c ≤ h) = false := decide_eq_false hch
    have HS := Lib.hid (M.div_start hhc hl)
    go_enter Tryz.func49, Tryz.ntmps49
    go_wp2_with fail
    refine (HM.out _).mono ?_
    rintro e w' ⟨rfl, rfl⟩
    go_wp2
    go_loop [9, 10, 11] (fun u v k => ∃ rest q kn : Nat, u = .int .u64 rest ∧ v = .int .u64 q ∧ k = .int .i64 ((kn : Int) - 1) ∧ kn ≤ 64 ∧ Hid (M.DivAt h l c kn rest q)) (fun _ _ k => (intOf k + 1).toNat)
    case atStart => exact ⟨h, 0, 64, rfl, rfl, by go_num, by omega, HS⟩
    case round =>
      obtain ⟨rest, q, kn, rfl, rfl, rfl, hk, hi⟩ := hrel
      rcases kn with _ | k
      · go_wp2
        go_ret
        exact ⟨M.ret_int (by rw [HQ.out hhc, M.div_end hi.out]), rfl⟩
      · obtain ⟨hr, hq, hy, hn⟩ := M.div_step (by omega) hi.out hhc hl hc
        have HY := Lib.hid hy; have HN := Lib.hid hn; clear hy hn
        have hb : l / 2 ^ k % 2 < 2 := Nat.mod_lt _ (by decide)
        have e1 : ((l : Int) / 2 ^ k).tmod 2 = ((l / 2 ^ k % 2 : Nat) : Int) := by
          rw [show ((l : Int) / 2 ^ k) = ((l / 2 ^ k : Nat) : Int) from by simp]
          generalize l / 2 ^ k = m
          rw [Int.tmod_eq_emod_of_nonneg (by omega)]; omega
        generalize l / 2 ^ k % 2 = bit at *
        by_cases h63 : 9223372036854775808 ≤ rest
        · have hd : decide (9223372036854775808 ≤ (rest : Int)) = true := decide_eq_true (by omega)
          obtain ⟨r2, hr2⟩ : ∃ r2, 2 * rest = r2 + 18446744073709551616 := ⟨2 * rest - 18446744073709551616, by omega⟩
          have e2 : IntKind.u64.wrap ((rest : Int) * 2) = ((r2 : Nat) : Int) := by rw [IntKind.wrap_u64]; omega
          have hr2l : r2 + 2 ≤ 18446744073709551616 := by omega
          have HR := Lib.hid hr2; clear hr2
          have HL := Lib.hid h63; clear h63
          go_wp2
          go_round
          case rel => exact ⟨2 * rest + bit - c, 2 * q + 1, k, by rw [IntKind.wrap_u64]; congr 1; have := HR.out; omega, by congr 1; omega, by go_num, by omega, Lib.hid (HY.out (by have := HL.out; omega))⟩
          case measure => simp [intOf]
        · have hd : decide (9223372036854775808 ≤ (rest : Int)) = false := decide_eq_false (by omega)
          have hl : 2 * rest + 2 ≤ 18446744073709551616 := by omega
          by_cases ht : c ≤ rest * 2 + bit
          · have hd2 : decide ((c : Int) ≤ (rest : Int) * 2 + (bit : Int)) = true := decide_eq_true (by omega)
            clear h63
            go_wp2
            go_round
            case rel => exact ⟨2 * rest + bit - c, 2 * q + 1, k, by congr 1; omega, by congr 1; omega, by go_num, by omega, Lib.hid (HY.out (by omega))⟩
            case measure => simp [intOf]
          · have hd2 : decide ((c : Int) ≤ (rest : Int) * 2 + (bit : Int)) = false := decide_eq_false (by omega)
            clear h63
            go_wp2
            go_round
            case rel => exact ⟨2 * rest + bit, 2 * q, k, by congr 1; omega, by congr 1; omega, by go_num, by omega, Lib.hid (HN.out (by omega))⟩
            case measure => simp [intOf]
end Go.Proofs.YtnhlachoimlhhaaGreatDoor

namespace Go.Proofs.YtnhlachoimlhhaaGreatDoor
open Go.ChangeShapes Go.WideShapes Go.ChangeAt Go.RowKit
set_option linter.unusedVariables false

/-- Two words, the first one the quotient. -/
def QuotIs (q : Nat) (e : Ending) : Prop := ∃ r : Int, e = .returned (.tuple #[.int .u64 q, .int .u64 r])

set_option maxRecDepth 100000 in
theorem div64_small (l y : Nat) (hl : l < 18446744073709551616) (hy : y < 18446744073709551616) (h0 : 0 < y) (w : World) :
    Calls Tryz.prog 204 #[.int .u64 0, .int .u64 l, .int .u64 y] w fun e w' => QuotIs (l / y) e ∧ ∃ n, w' = w.drewN n := by
  have hy0 : (((y : Nat) : Int) == 0) = false := by rw [beq_eq_false_iff_ne]; omega
  have hy1 : decide ((y : Int) ≤ 0) = false := decide_eq_false (by omega)
  have hy2 : (1 : Int) ≤ y := by omega
  go_enter Tryz.func204, Tryz.ntmps204
  go_wp2
  go_quiet (fail)
  go_wp2
  go_ret2
  exact ⟨⟨l % y, by rw [M.u64_quo l y hl]; simp⟩, _, rfl⟩

set_option maxRecDepth 100000 in
theorem div64_large (h l y : Nat) (hl : l < 18446744073709551616) (hy : y < 18446744073709551616) (h0 : 0 < h) (hhy : h < y) (w : World) :
    Calls Tryz.prog 204 #[.int .u64 h, .int .u64 l, .int .u64 y] w fun e w' => QuotIs ((h * 18446744073709551616 + l) / y) e ∧ w = w' := by
  have hy0 : (((y : Nat) : Int) == 0) = false := by rw [beq_eq_false_iff_ne]; omega
  have hh0 : (((h : Nat) : Int) == 0) = false := by rw [beq_eq_false_iff_ne]; omega
  have hy1 : decide (y ≤ h) = false := decide_eq_false (by omega)
  obtain ⟨b1, b2, b3⟩ := M.bitLen_spec y hy
  obtain ⟨b4, b5⟩ := b3 (by omega)
  obtain ⟨s, hs⟩ : ∃ s, Lib.bitLen y = 64 - s ∧ s ≤ 63 := ⟨64 - Lib.bitLen y, by omega, by omega⟩
  have HS : Hid (64 - (Lib.bitLen y : Int) = (s : Int)) := Lib.hid (by omega)
  have hs2 := hs.2
  have hv : 9223372036854775808 ≤ y * 2 ^ s ∧ y * 2 ^ s < 18446744073709551616 := by
    rw [hs.1] at b1 b5
    have e1 : 2 ^ (64 - s) * 2 ^ s = 18446744073709551616 := by rw [← Nat.pow_add, show 64 - s + s = 64 by omega]
    have e2 : 2 ^ (64 - s - 1) * 2 ^ s = 9223372036854775808 := by rw [← Nat.pow_add, show 64 - s - 1 + s = 63 by omega]
    have h1 := Nat.mul_le_mul_right (2 ^ s) b5
    have h2 := Nat.mul_lt_mul_of_pos_right b1 (Nat.two_pow_pos s)
    omega
  clear hs b1 b2 b3 b4 b5
  have e1 : IntKind.u64.wrap ((y : Int) * 2 ^ s) = ((y * 2 ^ s : Nat) : Int) := by
    rw [show ((y : Int) * 2 ^ s) = ((y * 2 ^ s : Nat) : Int) by simp]; exact IntWalk.u64_in _ (by omega)
  have a32 := M.and32
  have Hdiv := Lib.hid (M.shifted (h * 18446744073709551616 + l) y s)
  generalize hvv : y * 2 ^ s = v at *
  have HVV := Lib.hid hvv; clear hvv
  obtain ⟨vh, hvh⟩ : ∃ vh, v / 4294967296 = vh := ⟨_, rfl⟩
  obtain ⟨vl, hvl⟩ : ∃ vl, v % 4294967296 = vl := ⟨_, rfl⟩
  have f1 : ((v : Nat) : Int) / 4294967296 = vh := by omega
  have f2 : ((v : Nat) : Int) % 4294967296 = vl := by omega
  have g1 : 2147483648 ≤ vh ∧ vh < 4294967296 ∧ vl < 4294967296 := by omega
  obtain ⟨g1, g2, g3⟩ := g1
  have g4 : (1 : Int) ≤ vh := by omega
  have HV := Lib.hid (show v = vh * 4294967296 + vl by omega)
  clear hvh hvl
  obtain ⟨u, hu⟩ : ∃ u, h * 2 ^ s + l / 2 ^ (64 - s) = u := ⟨_, rfl⟩
  obtain ⟨l2, hl2⟩ : ∃ l2, l * 2 ^ s % 18446744073709551616 = l2 := ⟨_, rfl⟩
  have hul := M.shift_two h l s (by omega)
  rw [hu, hl2] at hul
  have huv : u < v := by
    have h1 := Nat.mul_le_mul_right (2 ^ s) (show h + 1 ≤ y by omega)
    rw [HVV.out, Nat.add_mul, Nat.one_mul] at h1
    have h2 := M.high_lt l s hl (by omega)
    omega
  have e2 := M.or_shift h l s (by omega) hl (by rw [hu]; omega)
  have e3 := M.shl_wrap l s
  rw [hu] at e2
  rw [hl2] at e3
  obtain ⟨d1, hd1⟩ : ∃ d1, l2 / 4294967296 = d1 := ⟨_, rfl⟩
  obtain ⟨d0, hd0⟩ : ∃ d0, l2 % 4294967296 = d0 := ⟨_, rfl⟩
  have hl2l : l2 < 18446744073709551616 := by rw [← hl2]; exact Nat.mod_lt _ (by decide)
  have f3 : ((l2 : Nat) : Int) / 4294967296 = d1 := by omega
  have f4 : ((l2 : Nat) : Int) % 4294967296 = d0 := by omega
  have g5 : d1 < 4294967296 := by omega
  have g6 : d0 < 4294967296 := by omega
  rw [← hul] at Hdiv
  rw [show u * 18446744073709551616 + l2 = u * 18446744073709551616 + d1 * 4294967296 + d0 by omega] at Hdiv
  clear hul hd1 hd0 hu hl2
  obtain ⟨q, hq⟩ : ∃ q, u / vh = q := ⟨_, rfl⟩
  obtain ⟨r, hr⟩ : ∃ r, u % vh = r := ⟨_, rfl⟩
  obtain ⟨p, hp⟩ : ∃ p, q * vh = p := ⟨_, rfl⟩
  have N1 : M.Normal u vh vl d1 := ⟨g1, g2, g3, g5, by rw [← HV.out]; exact huv⟩
  have G1 := M.guess_start N1
  rw [hq, hr] at G1
  have hpr : p + r = u := by rw [← hp]; exact G1.rest
  have hqm := G1.atMost
  have e4 : IntKind.u64.wrap ((u : Int) / vh) = q := by
    rw [show ((u : Int) / vh) = ((u / vh : Nat) : Int) by simp, hq]; exact IntWalk.u64_in _ (by omega)
  have e5 : IntKind.u64.wrap ((q : Int) * vh) = p := by
    rw [show ((q : Int) * vh) = ((q * vh : Nat) : Int) by simp, hp]; exact IntWalk.u64_in _ (by omega)
  have e6 : ((u : Int) - p) = r := by omega
  have N1' := Lib.hid N1
  have G1' := Lib.hid G1
  have H1 := Lib.hid hpr
  have hpu : p ≤ u := by omega
  have hrv : r < vh := by rw [← hr]; exact Nat.mod_lt _ (by omega)
  have hvv : v < 18446744073709551616 := hv.2
  have hv0 : 0 < v := by omega
  obtain ⟨Q, hQ⟩ : ∃ Q, (u * 4294967296 + d1) / v = Q := ⟨_, rfl⟩
  obtain ⟨u1, hu1⟩ : ∃ u1, (u * 4294967296 + d1) % v = u1 := ⟨_, rfl⟩
  have hu1v : u1 < v := by rw [← hu1]; exact Nat.mod_lt _ hv0
  have e7 : IntKind.u64.wrap (IntKind.u64.wrap (IntKind.u64.wrap ((u : Int) * 4294967296) + d1) - IntKind.u64.wrap ((Q : Int) * v)) = u1 := by
    have h1 := M.rest_wraps (u := u) (d := d1) hv0
    rw [hQ, hu1] at h1
    simp only [IntKind.wrap_u64]
    generalize (Q : Int) * v = x at *
    omega
  have HQ := Lib.hid hQ
  have htwo := M.two_digits u d1 d0 v hv0
  rw [hQ, hu1] at htwo
  obtain ⟨Q0, hQ0⟩ : ∃ Q0, (u1 * 4294967296 + d0) / v = Q0 := ⟨_, rfl⟩
  rw [hQ0] at htwo
  have HQ0 := Lib.hid hQ0
  have HTWO := Lib.hid htwo
  clear hQ hu1 htwo hQ0
  obtain ⟨q', hq'⟩ : ∃ q', u1 / vh = q' := ⟨_, rfl⟩
  obtain ⟨r', hr'⟩ : ∃ r', u1 % vh = r' := ⟨_, rfl⟩
  obtain ⟨p', hp'⟩ : ∃ p', q' * vh = p' := ⟨_, rfl⟩
  have N2 : M.Normal u1 vh vl d0 := ⟨g1, g2, g3, g6, by rw [← HV.out]; exact hu1v⟩
  have G2 := M.guess_start N2
  rw [hq', hr'] at G2
  have hpr' : p' + r' = u1 := by rw [← hp']; exact G2.rest
  have hqm' := G2.atMost
  have e8 : IntKind.u64.wrap ((u1 : Int) / vh) = q' := by
    rw [show ((u1 : Int) / vh) = ((u1 / vh : Nat) : Int) by simp, hq']; exact IntWalk.u64_in _ (by omega)
  have e9 : IntKind.u64.wrap ((q' : Int) * vh) = p' := by
    rw [show ((q' : Int) * vh) = ((q' * vh : Nat) : Int) by simp, hp']; exact IntWalk.u64_in _ (by omega)
  have e10 : ((u1 : Int) - p') = r' := by omega
  have N2' := Lib.hid N2
  have G2' := Lib.hid G2
  have hpu' : p' ≤ u1 := by omega
  have hrv' : r' < vh := by rw [← hr']; exact Nat.mod_lt _ (by omega)
  clear N1 G1 hpr hq hr hp hv N2 G2 hpr' hq' hr' hp'
  go_enter Tryz.func204, Tryz.ntmps204
  go_wp2_with fail
  refine (Tryz.bits_LeadingZeros64 y _ (by omega) (by omega)).mono ?_
  rintro e w' ⟨rfl, rfl⟩
  simp only [Int.toNat_natCast]
  rw [HS.out]
  go_upto_block 0 with fail
  go_cut [15, 16] from 67 to 85 (fun s15 s16 wx => s15 = .int .u64 Q ∧ wx = w')
  case first =>
    go_wp2_with fail
    go_loop [15, 16] (fun a b => ∃ qn rn : Nat, a = .int .u64 qn ∧ b = .int .u64 rn ∧ qn ≤ 4294967297 ∧ rn < 4294967296 ∧ Hid (M.Guess u vh vl d1 qn rn)) (fun a _ => (intOf a).toNat)
    case atStart => exact ⟨q, r, rfl, rfl, hqm, by omega, G1'⟩
    case round =>
      obtain ⟨qn, rn, rfl, rfl, hqn, hrn, hg⟩ := hrel
      have hstep := Lib.hid (fun h => M.guess_step N1'.out hg.out h)
      have hend := Lib.hid (fun h => M.guess_end N1'.out hg.out h)
      have hbrk := Lib.hid (fun g hq h => M.guess_break (q := qn - 1) (r := rn + vh) N1'.out g hq h)
      obtain ⟨m, hm⟩ : ∃ m, qn * vl = m := ⟨_, rfl⟩
      rw [hm] at hstep hend
      have hml : qn < 4294967296 → IntKind.u64.wrap ((qn : Int) * vl) = m ∧ m < 18446744073709551616 := by
        intro h
        have h2 := Nat.mul_le_mul (show qn ≤ 4294967295 by omega) (show vl ≤ 4294967295 by omega)
        rw [hm] at h2
        exact ⟨by rw [M.u64_mul qn vl (by rw [hm]; omega), hm], by omega⟩
      clear hm
      by_cases hbig : 4294967296 ≤ qn
      · have hb := decide_eq_true (p := (4294967296 : Int) ≤ qn) (by omega)
        obtain ⟨st1, st2, st3⟩ := hstep.out (.inl hbig)
        have ST3 := Lib.hid st3; clear st3 hml
        have HB := Lib.hid hbig; clear hbig
        by_cases hbr : 4294967296 ≤ rn + vh
        · have hb2 := decide_eq_true (p := (4294967296 : Int) ≤ (rn : Int) + vh) (by omega)
          have HB2 := Lib.hid hbr; clear hbr
          go_wp2
          go_meet
          exact ⟨by rw [← HQ.out, HV.out, ← hbrk.out ST3.out st2 HB2.out]; congr 1; omega, rfl⟩
        · have hb2 := decide_eq_false (p := (4294967296 : Int) ≤ (rn : Int) + vh) (by omega)
          have HB2 := Lib.hid hbr; clear hbr
          go_wp2
          go_round
          case rel => exact ⟨qn - 1, rn + vh, by congr 1; omega, by congr 1, by omega, by have := HB2.out; omega, ST3⟩
          case measure => simp [intOf]; omega
      · have hb := decide_eq_false (p := (4294967296 : Int) ≤ qn) (by omega)
        obtain ⟨hml1, hml2⟩ := hml (by omega)
        have hql : qn < 4294967296 := by omega
        clear hml hbig
        by_cases ht : 4294967296 * rn + d1 < m
        · have ht2 := decide_eq_true (p := (4294967296 : Int) * rn + d1 < m) (by omega)
          obtain ⟨st1, st2, st3⟩ := hstep.out (.inr ht)
          have ST3 := Lib.hid st3; clear st3
          have HT := Lib.hid ht; clear ht
          by_cases hbr : 4294967296 ≤ rn + vh
          · have hb2 := decide_eq_true (p := (4294967296 : Int) ≤ (rn : Int) + vh) (by omega)
            have HB2 := Lib.hid hbr; clear hbr
            go_wp2
            go_meet
            exact ⟨by rw [← HQ.out, HV.out, ← hbrk.out ST3.out st2 HB2.out]; congr 1; omega, rfl⟩
          · have hb2 := decide_eq_false (p := (4294967296 : Int) ≤ (rn : Int) + vh) (by omega)
            have HB2 := Lib.hid hbr; clear hbr
            go_wp2
            go_round
            case rel => exact ⟨qn - 1, rn + vh, by congr 1; omega, by congr 1, by omega, by have := HB2.out; omega, ST3⟩
            case measure => simp [intOf]; omega
        · have ht2 := decide_eq_false (p := (4294967296 : Int) * rn + d1 < m) (by omega)
          have HT := Lib.hid ht; clear ht
          go_wp2
          go_meet
          exact ⟨by rw [← HQ.out, HV.out, ← hend.out (by have := HT.out; omega)], rfl⟩
  case rest =>
    obtain ⟨rfl, rfl⟩ := hcut
    go_upto_block 2 with fail
    go_cut [16, 18] from 102 to 120 (fun s16 s18 wx => s18 = .int .u64 Q0 ∧ wx = wc)
    case first =>
      go_wp2_with fail
      go_loop [16, 18] (fun b a => ∃ qn rn : Nat, a = .int .u64 qn ∧ b = .int .u64 rn ∧ qn ≤ 4294967297 ∧ rn < 4294967296 ∧ Hid (M.Guess u1 vh vl d0 qn rn)) (fun _ a => (intOf a).toNat)
      case atStart => exact ⟨q', r', rfl, rfl, hqm', by omega, G2'⟩
      case round =>
        obtain ⟨qn, rn, rfl, rfl, hqn, hrn, hg⟩ := hrel
        have hstep := Lib.hid (fun h => M.guess_step N2'.out hg.out h)
        have hend := Lib.hid (fun h => M.guess_end N2'.out hg.out h)
        have hbrk := Lib.hid (fun g hq h => M.guess_break (q := qn - 1) (r := rn + vh) N2'.out g hq h)
        obtain ⟨m, hm⟩ : ∃ m, qn * vl = m := ⟨_, rfl⟩
        rw [hm] at hstep hend
        have hml : qn < 4294967296 → IntKind.u64.wrap ((qn : Int) * vl) = m ∧ m < 18446744073709551616 := by
          intro h
          have h2 := Nat.mul_le_mul (show qn ≤ 4294967295 by omega) (show vl ≤ 4294967295 by omega)
          rw [hm] at h2
          exact ⟨by rw [M.u64_mul qn vl (by rw [hm]; omega), hm], by omega⟩
        clear hm
        by_cases hbig : 4294967296 ≤ qn
        · have hb := decide_eq_true (p := (4294967296 : Int) ≤ qn) (by omega)
          obtain ⟨st1, st2, st3⟩ := hstep.out (.inl hbig)
          have ST3 := Lib.hid st3; clear st3 hml
          have HB := Lib.hid hbig; clear hbig
          by_cases hbr : 4294967296 ≤ rn + vh
          · have hb2 := decide_eq_true (p := (4294967296 : Int) ≤ (rn : Int) + vh) (by omega)
            have HB2 := Lib.hid hbr; clear hbr
            go_wp2
            go_meet
            exact ⟨by rw [← HQ0.out, HV.out, ← hbrk.out ST3.out st2 HB2.out]; congr 1; omega, rfl⟩
          · have hb2 := decide_eq_false (p := (4294967296 : Int) ≤ (rn : Int) + vh) (by omega)
            have HB2 := Lib.hid hbr; clear hbr
            go_wp2
            go_round
            case rel => exact ⟨qn - 1, rn + vh, by congr 1; omega, by congr 1, by omega, by have := HB2.out; omega, ST3⟩
            case measure => simp [intOf]; omega
        · have hb := decide_eq_false (p := (4294967296 : Int) ≤ qn) (by omega)
          obtain ⟨hml1, hml2⟩ := hml (by omega)
          have hql : qn < 4294967296 := by omega
          clear hml hbig
          by_cases ht : 4294967296 * rn + d0 < m
          · have ht2 := decide_eq_true (p := (4294967296 : Int) * rn + d0 < m) (by omega)
            obtain ⟨st1, st2, st3⟩ := hstep.out (.inr ht)
            have ST3 := Lib.hid st3; clear st3
            have HT := Lib.hid ht; clear ht
            by_cases hbr : 4294967296 ≤ rn + vh
            · have hb2 := decide_eq_true (p := (4294967296 : Int) ≤ (rn : Int) + vh) (by omega)
              have HB2 := Lib.hid hbr; clear hbr
              go_wp2
              go_meet
              exact ⟨by rw [← HQ0.out, HV.out, ← hbrk.out ST3.out st2 HB2.out]; congr 1; omega, rfl⟩
            · have hb2 := decide_eq_false (p := (4294967296 : Int) ≤ (rn : Int) + vh) (by omega)
              have HB2 := Lib.hid hbr; clear hbr
              go_wp2
              go_round
              case rel => exact ⟨qn - 1, rn + vh, by congr 1; omega, by congr 1, by omega, by have := HB2.out; omega, ST3⟩
              case measure => simp [intOf]; omega
          · have ht2 := decide_eq_false (p := (4294967296 : Int) * rn + d0 < m) (by omega)
            have HT := Lib.hid ht; clear ht
            go_wp2
            go_meet
            exact ⟨by rw [← HQ0.out, HV.out, ← hend.out (by have := HT.out; omega)], rfl⟩
    case rest =>
      obtain ⟨rfl, rfl⟩ := hcut
      go_wp2
      go_ret2
      have hsm := M.quot_small hhy hl
      have heq : Q * 4294967296 + Q0 = (h * 18446744073709551616 + l) / y := by rw [HTWO.out, Hdiv.out]
      rw [← heq] at hsm ⊢
      refine ⟨⟨_, M.ret_ints (l := .u64) ?_ rfl⟩, rfl⟩
      simp only [IntKind.wrap_u64]; simp; omega

/-- math/bits.Div64 where it does not panic: the quotient. -/
theorem div64_any (h l y : Nat) (hl : l < 18446744073709551616) (hy : y < 18446744073709551616) (hhy : h < y) (w : World) :
    Calls Tryz.prog 204 #[.int .u64 h, .int .u64 l, .int .u64 y] w fun e w' => QuotIs ((h * 18446744073709551616 + l) / y) e ∧ ∃ n, w' = w.drewN n := by
  rcases h with _ | h
  · have := div64_small l y hl hy (by omega) w
    rw [Nat.zero_mul, Nat.zero_add]; exact this
  · exact (div64_large (h + 1) l y hl hy (by omega) hhy w).mono fun e w' ⟨h1, h2⟩ => ⟨h1, 0, by subst h2; rfl⟩

theorem fixMulDiv_any (a b c : Nat) (ha : a < 18446744073709551616) (hb : b < 18446744073709551616) (hc : c < 18446744073709551616) (w : World) :
    Calls Tryz.prog 182 #[.int .u64 a, .int .u64 b, .int .u64 c] w fun e w' => e = .returned (.int .u64 (M.mulDivT a b c)) ∧ ∃ n, w' = w.drewN n := by
  obtain ⟨h, l, hp, hh, hl⟩ := M.halves a b ha hb
  have HM := Lib.hid (fun w => mul64_at ha hb hp hl w)
  have HT := Lib.hid (fun h0 hc => M.mulDivT_top (c := c) hp h0 hc)
  have HQ := Lib.hid (fun hc => M.mulDivT_quot (c := c) hp hc hl)
  clear hp
  by_cases hch : c ≤ h
  · have hv : M.mulDivT a b c = 18446744073709551615 := by
      by_cases h0 : c = 0
      · subst h0; rfl
      · exact HT.out (by omega) hch
    have HV := Lib.hid hv; clear hv
    have hd : decide (c ≤ h) = true := decide_eq_true hch
    go_enter Tryz.func182, Tryz.ntmps182
    go_wp2_with fail
    refine (HM.out _).mono ?_
    rintro e w' ⟨rfl, rfl⟩
    go_wp2
    go_ret
    exact ⟨M.ret_int (by rw [HV.out]; rfl), 0, rfl⟩
  · have hd : decide (c ≤ h) = false := decide_eq_false hch
    have HV := Lib.hid (HQ.out (by omega))
    go_enter Tryz.func182, Tryz.ntmps182
    go_wp2_with fail
    refine (HM.out _).mono ?_
    rintro e w' ⟨rfl, rfl⟩
    go_wp2_with fail
    refine (div64_any h l c hl hc (by omega) _).mono ?_
    rintro e w' ⟨⟨r, rfl⟩, n, rfl⟩
    go_wp2
    go_ret
    exact ⟨M.ret_int (by rw [HV.out]; rfl), n, rfl⟩

theorem fixMul_any (a b : Nat) (ha : a < 18446744073709551616) (hb : b < 18446744073709551616) (w : World) :
    Calls Tryz.prog 88 #[.int .u64 a, .int .u64 b] w fun e w' => e = .returned (.int .u64 (M.mulT a b)) ∧ w = w' := by
  obtain ⟨h, l, hp, hh, hl⟩ := M.halves a b ha hb
  have HM := Lib.hid (fun w => mul64_at ha hb hp hl w)
  have he : M.mulT a b = if a * b < 18446744073709551616 then a * b else 18446744073709551615 := rfl
  rw [hp] at he
  by_cases h0 : h = 0
  · subst h0
    rw [if_pos (by omega)] at he
    have HE := Lib.hid he; clear he hp
    go_enter Tryz.func88, Tryz.ntmps88
    go_wp2_with fail
    refine (HM.out _).mono ?_
    rintro e w' ⟨rfl, rfl⟩
    go_wp2
    go_ret
    exact ⟨M.ret_int (by rw [HE.out]; simp), rfl⟩
  · rw [if_neg (by omega)] at he
    have HE := Lib.hid he
    have h1 : (((h : Nat) : Int) != 0) = true := by rw [bne_iff_ne]; omega
    clear he hp h0
    go_enter Tryz.func88, Tryz.ntmps88
    go_wp2_with fail
    refine (HM.out _).mono ?_
    rintro e w' ⟨rfl, rfl⟩
    go_wp2
    go_ret
    exact ⟨M.ret_int (by rw [HE.out]; rfl), rfl⟩
end Go.Proofs.YtnhlachoimlhhaaGreatDoor
