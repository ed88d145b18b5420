/-
  What the functions of package fix and their neighbours answer: products in halves, the comparison of pairs, sums that stop at the greatest word.
-/
import Derived.Test.YtdlpapchjjbplaaGreatDoorChecked
import Derived.Test.YtdlpapchjjbplaaGreatDoorMath
import Derived.Test.YtdlpapchjjbplaaGreatDoorWords
import Derived.WalkKit
import Derived.ProofKit
import Derived.OpenShut
namespace Go.Proofs.YtdlpapchjjbplaaGreatDoor
open Go.ChangeShapes Go.WideShapes Go.ChangeAt Go.RowKit
set_option linter.unusedVariables false

theorem mul64_any (a b : Nat) (ha : a < 18446744073709551616) (hb : b < 18446744073709551616) (w : World) :
    Calls Tryz.prog 80 #[.int .u64 a, .int .u64 b] w fun e w' => e = .returned (.tuple #[.int .u64 ((a * b / 18446744073709551616 : Nat) : Int), .int .u64 ((a * b % 18446744073709551616 : Nat) : Int)]) ∧ w = w' := by
  obtain ⟨h1, h2, h3, h4, h5, h6, h7, h8⟩ := M.prods a b ha hb
  have E1 := Lib.hid (M.wide_hiI a b)
  have hm := M.and32
  go_enter Tryz.func80, Tryz.ntmps80
  go_wp2
  go_ret2
  exact ⟨M.ret_ints (by have := E1.out; simp; omega) (by simp [IntKind.wrap_u64]), rfl⟩

theorem squareFits_any (n h l : Nat) (hn : n < 18446744073709551616) (hh : h < 18446744073709551616) (hl : l < 18446744073709551616) (w : World) :
    Calls Tryz.prog 99 #[.int .u64 n, .int .u64 h, .int .u64 l] w fun e w' => e = .returned (.bool (decide (n * n ≤ h * 18446744073709551616 + l))) ∧ w = w' := by
  have hx := Nat.div_add_mod (n * n) 18446744073709551616
  generalize hp : n * n = p at *
  generalize hq : p / 18446744073709551616 = q at *
  generalize hr : p % 18446744073709551616 = r at *
  have HX := Lib.hid hx; have HP := Lib.hid hp; have HQ := Lib.hid hq; have HR := Lib.hid hr; have HL : r < 18446744073709551616 := by omega
  clear hx hp hq hr
  by_cases h1 : q < h
  · go_enter Tryz.func99, Tryz.ntmps99
    go_wp2_with fail
    refine (mul64_any n n hn hn _).mono ?_
    rintro e w' ⟨rfl, rfl⟩
    rw [HP.out, HQ.out, HR.out]
    go_wp2
    go_ret
    exact ⟨M.ret_bool (by have := HX.out; rw [Bool.eq_iff_iff]; simp; omega), rfl⟩
  · by_cases h2 : q = h
    · subst h2
      go_enter Tryz.func99, Tryz.ntmps99
      go_wp2_with fail
      refine (mul64_any n n hn hn _).mono ?_
      rintro e w' ⟨rfl, rfl⟩
      rw [HP.out, HQ.out, HR.out]
      go_wp2
      go_ret
      exact ⟨M.ret_bool (by have := HX.out; rw [Bool.eq_iff_iff]; simp; omega), rfl⟩
    · have h3 : (((q : Nat) : Int) == h) = false := by rw [beq_eq_false_iff_ne]; omega
      go_enter Tryz.func99, Tryz.ntmps99
      go_wp2_with fail
      refine (mul64_any n n hn hn _).mono ?_
      rintro e w' ⟨rfl, rfl⟩
      rw [HP.out, HQ.out, HR.out]
      go_wp2
      go_ret
      exact ⟨M.ret_bool (by have := HX.out; rw [Bool.eq_iff_iff]; simp; omega), rfl⟩

end Go.Proofs.YtdlpapchjjbplaaGreatDoor
