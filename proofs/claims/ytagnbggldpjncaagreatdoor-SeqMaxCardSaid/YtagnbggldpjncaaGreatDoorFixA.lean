/-
  What the functions of package fix and their neighbours answer: products in halves, the comparison of pairs, sums that stop at the greatest word.
-/
import Derived.Test.YtagnbggldpjncaaGreatDoorChecked
import Derived.Test.YtagnbggldpjncaaGreatDoorMath
import Derived.Test.YtagnbggldpjncaaGreatDoorWords
import Derived.WalkKit
import Derived.ProofKit
import Derived.OpenShut
namespace Go.Proofs.YtagnbggldpjncaaGreatDoor
open Go.ChangeShapes Go.WideShapes Go.ChangeAt Go.RowKit
set_option linter.unusedVariables false

theorem wide_any (a b : Nat) (ha : a < 18446744073709551616) (hb : b < 18446744073709551616) (w : World) :
    Calls Tryz.prog 28 #[.int .u64 a, .int .u64 b] w fun e w' => e = .returned (.tuple #[.int .u64 ((a * b / 18446744073709551616 : Nat) : Int), .int .u64 ((a * b % 18446744073709551616 : Nat) : Int)]) ∧ w = w' := by
  obtain ⟨h1, h2, h3, h4, h5, h6, h7, h8⟩ := M.prods a b ha hb
  have E1 := Lib.hid (M.wide_hiI a b)
  have E2 := Lib.hid (M.wide_loI a b)
  go_enter Tryz.func28, Tryz.ntmps28
  go_wp2
  go_ret2
  exact ⟨M.ret_ints (by have := E1.out; simp; omega) (by have := E2.out; simp; omega), rfl⟩

theorem mul64_any (a b : Nat) (ha : a < 18446744073709551616) (hb : b < 18446744073709551616) (w : World) :
    Calls Tryz.prog 52 #[.int .u64 a, .int .u64 b] w fun e w' => e = .returned (.tuple #[.int .u64 ((a * b / 18446744073709551616 : Nat) : Int), .int .u64 ((a * b % 18446744073709551616 : Nat) : Int)]) ∧ w = w' := by
  obtain ⟨h1, h2, h3, h4, h5, h6, h7, h8⟩ := M.prods a b ha hb
  have E1 := Lib.hid (M.wide_hiI a b)
  have hm := M.and32
  go_enter Tryz.func52, Tryz.ntmps52
  go_wp2
  go_ret2
  exact ⟨M.ret_ints (by have := E1.out; simp; omega) (by simp [IntKind.wrap_u64]), rfl⟩

theorem over_any (a b c d : Nat) (ha : a < 18446744073709551616) (hb : b < 18446744073709551616) (hc : c < 18446744073709551616) (hd : d < 18446744073709551616) (w : World) :
    Calls Tryz.prog 29 #[.int .u64 a, .int .u64 b, .int .u64 c, .int .u64 d] w fun e w' => e = .returned (.bool (M.over a b c d)) ∧ w = w' := by
  have he : M.over a b c d = (decide (c < a) || (decide (a = c) && decide (d < b))) := by
    unfold M.over; rw [Bool.eq_iff_iff]; simp only [decide_eq_true_eq, Bool.or_eq_true, Bool.and_eq_true]; omega
  have HE := Lib.hid he; clear he
  by_cases h : c < a
  · go_enter Tryz.func29, Tryz.ntmps29
    go_wp2
    go_ret
    exact ⟨M.ret_bool (by rw [HE.out]; simp [h]), rfl⟩
  · by_cases h2 : a = c
    · subst h2
      go_enter Tryz.func29, Tryz.ntmps29
      go_wp2
      go_ret
      exact ⟨M.ret_bool (by rw [HE.out]; simp), rfl⟩
    · have h3 : (((a : Nat) : Int) == c) = false := by rw [beq_eq_false_iff_ne]; omega
      go_enter Tryz.func29, Tryz.ntmps29
      go_wp2
      go_ret
      exact ⟨M.ret_bool (by rw [HE.out]; simp [h, h2]), rfl⟩

theorem squareFits_any (n h l : Nat) (hn : n < 18446744073709551616) (hh : h < 18446744073709551616) (hl : l < 18446744073709551616) (w : World) :
    Calls Tryz.prog 55 #[.int .u64 n, .int .u64 h, .int .u64 l] w fun e w' => e = .returned (.bool (decide (n * n ≤ h * 18446744073709551616 + l))) ∧ w = w' := by
  have hx := Nat.div_add_mod (n * n) 18446744073709551616
  generalize hp : n * n = p at *
  generalize hq : p / 18446744073709551616 = q at *
  generalize hr : p % 18446744073709551616 = r at *
  have HX := Lib.hid hx; have HP := Lib.hid hp; have HQ := Lib.hid hq; have HR := Lib.hid hr; have HL : r < 18446744073709551616 := by omega
  clear hx hp hq hr
  by_cases h1 : q < h
  · go_enter Tryz.func55, Tryz.ntmps55
    go_wp2_with fail
    refine (mul64_any n n hn hn _).mono ?_
    rintro e w' ⟨rfl, rfl⟩
    rw [HP.out, HQ.out, HR.out]
    go_wp2
    go_ret
    exact ⟨M.ret_bool (by have := HX.out; rw [Bool.eq_iff_iff]; simp; omega), rfl⟩
  · by_cases h2 : q = h
    · subst h2
      go_enter Tryz.func55, Tryz.ntmps55
      go_wp2_with fail
      refine (mul64_any n n hn hn _).mono ?_
      rintro e w' ⟨rfl, rfl⟩
      rw [HP.out, HQ.out, HR.out]
      go_wp2
      go_ret
      exact ⟨M.ret_bool (by have := HX.out; rw [Bool.eq_iff_iff]; simp; omega), rfl⟩
    · have h3 : (((q : Nat) : Int) == h) = false := by rw [beq_eq_false_iff_ne]; omega
      go_enter Tryz.func55, Tryz.ntmps55
      go_wp2_with fail
      refine (mul64_any n n hn hn _).mono ?_
      rintro e w' ⟨rfl, rfl⟩
      rw [HP.out, HQ.out, HR.out]
      go_wp2
      go_ret
      exact ⟨M.ret_bool (by have := HX.out; rw [Bool.eq_iff_iff]; simp; omega), rfl⟩

theorem fixAdd_any (a b : Nat) (ha : a < 18446744073709551616) (hb : b < 18446744073709551616) (w : World) :
    Calls Tryz.prog 17 #[.int .u64 a, .int .u64 b] w fun e w' => e = .returned (.int .u64 (M.addT a b)) ∧ w = w' := by
  have he : M.addT a b = if a + b < 18446744073709551616 then a + b else 18446744073709551615 := rfl
  have HE := Lib.hid he; clear he
  by_cases h : 18446744073709551615 - a < b
  · go_enter Tryz.func17, Tryz.ntmps17
    go_wp2
    go_ret
    exact ⟨M.ret_int (by rw [HE.out, if_neg (by omega)]; rfl), rfl⟩
  · go_enter Tryz.func17, Tryz.ntmps17
    go_wp2
    go_ret
    exact ⟨M.ret_int (by rw [HE.out, if_pos (by omega)]; simp), rfl⟩

theorem fixSub_any (a b : Nat) (ha : a < 18446744073709551616) (hb : b < 18446744073709551616) (w : World) :
    Calls Tryz.prog 18 #[.int .u64 a, .int .u64 b] w fun e w' => e = .returned (.int .u64 ((a - b : Nat) : Int)) ∧ w = w' := by
  by_cases h : a < b
  · go_enter Tryz.func18, Tryz.ntmps18
    go_wp2
    go_ret
    exact ⟨M.ret_int (by first | omega | (simp; omega)), rfl⟩
  · go_enter Tryz.func18, Tryz.ntmps18
    go_wp2
    go_ret
    exact ⟨M.ret_int (by first | omega | (simp; omega)), rfl⟩
theorem refSub_any (a b : Nat) (ha : a < 18446744073709551616) (hb : b < 18446744073709551616) (w : World) :
    Calls Tryz.prog 19 #[.int .u64 a, .int .u64 b] w fun e w' => e = .returned (.int .u64 ((a - b : Nat) : Int)) ∧ w = w' := by
  by_cases h : a < b
  · go_enter Tryz.func19, Tryz.ntmps19
    go_wp2
    go_ret
    exact ⟨M.ret_int (by first | omega | (simp; omega)), rfl⟩
  · go_enter Tryz.func19, Tryz.ntmps19
    go_wp2
    go_ret
    exact ⟨M.ret_int (by first | omega | (simp; omega)), rfl⟩
end Go.Proofs.YtagnbggldpjncaaGreatDoor
