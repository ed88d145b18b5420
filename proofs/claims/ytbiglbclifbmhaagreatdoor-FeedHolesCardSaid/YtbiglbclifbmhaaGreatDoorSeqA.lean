/-
  What the functions of package seq come to, and what the document's own answers come to: the same remainders.
-/
import Derived.Test.YtbiglbclifbmhaaGreatDoorChecked
import Derived.Test.YtbiglbclifbmhaaGreatDoorWords
import Derived.WalkKit
import Derived.ProofKit
import Derived.LoopTactic
import Derived.Outline
namespace Go.Proofs.YtbiglbclifbmhaaGreatDoor
open Go.ChangeShapes Go.WideShapes Go.ChangeAt Go.RowKit
set_option linter.unusedVariables false

/-- n further on than s, round 2^48. -/
def stepI (s n : Int) : Int := (s + n) % 281474976710656
/-- By how much a lies behind b. -/
def diffI (a b : Int) : Int := (a - b + 140737488355328) % 281474976710656 - 140737488355328
def inB (low s high : Int) : Bool := decide ((s - low) % 281474976710656 ≤ (high - low) % 281474976710656)
/-- The number near 'near' with the lowest 24 bits of 'short'. -/
def longI (short near : Int) : Int := stepI near ((short - near + 8388608) % 16777216 - 8388608)

theorem seqOf_any (n : Nat) (h1 : n < 18446744073709551616) (w : World) :
    Calls Tryz.prog 48 #[.int .u64 n] w fun e w' => e = .returned (.int .u64 ((n : Int) % 281474976710656)) ∧ w = w' := by
  have hm := M.and48
  go_enter Tryz.func48, Tryz.ntmps48
  go_wp2
  go_ret
  exact ⟨rfl, rfl⟩

theorem refSeq_any (n : Nat) (h1 : n < 18446744073709551616) (w : World) :
    Calls Tryz.prog 11 #[.int .u64 n] w fun e w' => e = .returned (.int .u64 ((n : Int) % 281474976710656)) ∧ w = w' := by
  go_enter Tryz.func11, Tryz.ntmps11
  go_wp2
  go_ret
  exact ⟨rfl, rfl⟩

theorem seqAdd_any (s : Nat) (n : Int) (h1 : s < 18446744073709551616) (h2 : -9223372036854775808 ≤ n) (h3 : n ≤ 9223372036854775807) (w : World) :
    Calls Tryz.prog 76 #[.int .u64 s, .int .i64 n] w fun e w' => e = .returned (.int .u64 (stepI s n)) ∧ w = w' := by
  have hm := M.and48
  go_enter Tryz.func76, Tryz.ntmps76
  go_wp2
  go_ret
  exact ⟨M.ret_int (by unfold stepI; simp only [IntKind.wrap_u64]; first | omega | (simp; done) | (simp; omega)), rfl⟩

theorem refStep_any (s : Nat) (n : Int) (h1 : s < 18446744073709551616) (h2 : -9223372036854775808 ≤ n) (h3 : n ≤ 9223372036854775807) (w : World) :
    Calls Tryz.prog 8 #[.int .u64 s, .int .i64 n] w fun e w' => e = .returned (.int .u64 (stepI s n)) ∧ w = w' := by
  obtain ⟨m, hm, hb1, hb2, hm2, _⟩ := M.tmod48 n
  have HM2 := Lib.hid hm2; clear hm2
  by_cases h : m < 0
  · have hd := decide_eq_true h
    go_enter Tryz.func8, Tryz.ntmps8
    go_wp2
    go_ret
    exact ⟨M.ret_int (by have := HM2.out; unfold stepI; try simp only [IntKind.wrap_u64]
                         first | omega | (simp; omega)), rfl⟩
  · have hd := decide_eq_false h
    have h0 : 0 ≤ m := by omega
    clear h
    go_enter Tryz.func8, Tryz.ntmps8
    go_wp2
    go_ret
    exact ⟨M.ret_int (by have := HM2.out; unfold stepI; try simp only [IntKind.wrap_u64]
                         first | omega | (simp; omega)), rfl⟩

theorem seqDiff_any (a b : Nat) (h1 : a < 18446744073709551616) (h2 : b < 18446744073709551616) (w : World) :
    Calls Tryz.prog 41 #[.int .u64 a, .int .u64 b] w fun e w' => e = .returned (.int .i64 (diffI a b)) ∧ w = w' := by
  go_enter Tryz.func41, Tryz.ntmps41
  go_wp2
  go_ret
  exact ⟨M.ret_int (by unfold diffI; simp only [IntKind.wrap_u64, wrap64]; first | omega | (simp; done) | (simp; omega)), rfl⟩

theorem seqLess_any (a b : Nat) (h1 : a < 18446744073709551616) (h2 : b < 18446744073709551616) (w : World) :
    Calls Tryz.prog 80 #[.int .u64 a, .int .u64 b] w fun e w' => e = .returned (.bool (decide (diffI a b < 0))) ∧ w = w' := by
  go_enter Tryz.func80, Tryz.ntmps80
  go_wp2_with fail
  refine (seqDiff_any a b h1 h2 _).mono ?_
  rintro e w' ⟨rfl, rfl⟩
  go_wp2
  go_ret
  exact ⟨rfl, rfl⟩

theorem seqShort_any (a : Nat) (h1 : a < 18446744073709551616) (w : World) :
    Calls Tryz.prog 200 #[.int .u64 a] w fun e w' => e = .returned (.int .u32 ((a : Int) % 16777216)) ∧ w = w' := by
  have hm := M.and24
  go_enter Tryz.func200, Tryz.ntmps200
  go_wp2
  go_ret
  exact ⟨M.ret_int (by first | rfl | omega | (simp; omega)), rfl⟩

theorem longI_spec (s n : Int) : longI s n % 16777216 = s % 16777216 ∧ 0 ≤ longI s n ∧ longI s n < 281474976710656
    ∧ -8388608 ≤ diffI (longI s n) n ∧ diffI (longI s n) n < 8388608 := by
  unfold longI stepI diffI; omega

theorem signed24 (x : Int) : wrap64 (x % 18446744073709551616 * 1099511627776 % 18446744073709551616) / 1099511627776 = (x + 8388608) % 16777216 - 8388608 := by
  unfold wrap64; omega
/-! ### The greatest of several -/
def maxStep (s x : Nat) : Nat := if diffI s x < 0 then x else s
def maxI (s : Nat) (xs : List Nat) : Nat := xs.foldl maxStep s
theorem maxI_snoc (s : Nat) (xs : List Nat) (x : Nat) : maxI s (xs ++ [x]) = maxStep (maxI s xs) x := by simp [maxI]
theorem maxI_lt (xs : List Nat) : ∀ s, s < 18446744073709551616 → (∀ x ∈ xs, x < 18446744073709551616) → maxI s xs < 18446744073709551616 := by
  induction xs with
  | nil => intro s h _; exact h
  | cons x xs ih =>
    intro s h hx
    refine ih _ ?_ (fun y hy => hx y (List.mem_cons_of_mem _ hy))
    unfold maxStep; split
    · exact hx x (List.mem_cons_self ..)
    · exact h
theorem take_snoc_nat (xs : List Nat) (k : Nat) (h : k < xs.length) : xs.take (k + 1) = xs.take k ++ [xs.getD k 0] := by
  rw [List.take_succ_eq_append_getElem h]; congr 2; simp [h]

end Go.Proofs.YtbiglbclifbmhaaGreatDoor
