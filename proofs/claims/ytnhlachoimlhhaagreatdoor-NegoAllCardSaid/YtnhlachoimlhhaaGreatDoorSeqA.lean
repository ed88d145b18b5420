/-
  What the functions of package seq come to, and what the document's own answers come to: the same remainders.
-/
import Derived.Test.YtnhlachoimlhhaaGreatDoorChecked
import Derived.Test.YtnhlachoimlhhaaGreatDoorMatW
import Derived.WalkKit
import Derived.ProofKit
import Derived.LoopTactic
import Derived.Outline
namespace Go.Proofs.YtnhlachoimlhhaaGreatDoor
open Go.ChangeShapes Go.WideShapes Go.ChangeAt Go.RowKit
set_option linter.unusedVariables false

/-- n further on than s, round 2^48. -/
def stepI (s n : Int) : Int := (s + n) % 281474976710656
/-- By how much a lies behind b. -/
def diffI (a b : Int) : Int := (a - b + 140737488355328) % 281474976710656 - 140737488355328
def inB (low s high : Int) : Bool := decide ((s - low) % 281474976710656 ≤ (high - low) % 281474976710656)
/-- The number near 'near' with the lowest 24 bits of 'short'. -/
def longI (short near : Int) : Int := stepI near ((short - near + 8388608) % 16777216 - 8388608)

theorem seqOf_any (n : Nat) (h1 : n < 18446744073709551616) (w : World) :
    Calls Tryz.prog 82 #[.int .u64 n] w fun e w' => e = .returned (.int .u64 ((n : Int) % 281474976710656)) ∧ w = w' := by
  have hm := M.and48
  go_enter Tryz.func82, Tryz.ntmps82
  go_wp2
  go_ret
  exact ⟨rfl, rfl⟩

theorem refSeq_any (n : Nat) (h1 : n < 18446744073709551616) (w : World) :
    Calls Tryz.prog 35 #[.int .u64 n] w fun e w' => e = .returned (.int .u64 ((n : Int) % 281474976710656)) ∧ w = w' := by
  go_enter Tryz.func35, Tryz.ntmps35
  go_wp2
  go_ret
  exact ⟨rfl, rfl⟩

theorem seqAdd_any (s : Nat) (n : Int) (h1 : s < 18446744073709551616) (h2 : -9223372036854775808 ≤ n) (h3 : n ≤ 9223372036854775807) (w : World) :
    Calls Tryz.prog 101 #[.int .u64 s, .int .i64 n] w fun e w' => e = .returned (.int .u64 (stepI s n)) ∧ w = w' := by
  have hm := M.and48
  go_enter Tryz.func101, Tryz.ntmps101
  go_wp2
  go_ret
  exact ⟨M.ret_int (by unfold stepI; simp only [IntKind.wrap_u64]; first | omega | (simp; done) | (simp; omega)), rfl⟩

theorem refStep_any (s : Nat) (n : Int) (h1 : s < 18446744073709551616) (h2 : -9223372036854775808 ≤ n) (h3 : n ≤ 9223372036854775807) (w : World) :
    Calls Tryz.prog 36 #[.int .u64 s, .int .i64 n] w fun e w' => e = .returned (.int .u64 (stepI s n)) ∧ w = w' := by
  obtain ⟨m, hm, hb1, hb2, hm2, _⟩ := M.tmod48 n
  have HM2 := Lib.hid hm2; clear hm2
  by_cases h : m < 0
  · have hd := decide_eq_true h
    go_enter Tryz.func36, Tryz.ntmps36
    go_wp2
    go_ret
    exact ⟨M.ret_int (by have := HM2.out; unfold stepI; try simp only [IntKind.wrap_u64]
                         first | omega | (simp; omega)), rfl⟩
  · have hd := decide_eq_false h
    have h0 : 0 ≤ m := by omega
    clear h
    go_enter Tryz.func36, Tryz.ntmps36
    go_wp2
    go_ret
    exact ⟨M.ret_int (by have := HM2.out; unfold stepI; try simp only [IntKind.wrap_u64]
                         first | omega | (simp; omega)), rfl⟩

theorem seqDiff_any (a b : Nat) (h1 : a < 18446744073709551616) (h2 : b < 18446744073709551616) (w : World) :
    Calls Tryz.prog 155 #[.int .u64 a, .int .u64 b] w fun e w' => e = .returned (.int .i64 (diffI a b)) ∧ w = w' := by
  go_enter Tryz.func155, Tryz.ntmps155
  go_wp2
  go_ret
  exact ⟨M.ret_int (by unfold diffI; simp only [IntKind.wrap_u64, wrap64]; first | omega | (simp; done) | (simp; omega)), rfl⟩

theorem refDiff_any (a b : Nat) (h1 : a < 18446744073709551616) (h2 : b < 18446744073709551616) (w : World) :
    Calls Tryz.prog 122 #[.int .u64 a, .int .u64 b] w fun e w' => e = .returned (.int .i64 (diffI a b)) ∧ w = w' := by
  have hd : diffI a b = if 140737488355328 ≤ ((a : Int) % 281474976710656 + 281474976710656 - (b : Int) % 281474976710656) % 281474976710656 then ((a : Int) % 281474976710656 + 281474976710656 - (b : Int) % 281474976710656) % 281474976710656 - 281474976710656 else ((a : Int) % 281474976710656 + 281474976710656 - (b : Int) % 281474976710656) % 281474976710656 := by
    unfold diffI; split <;> omega
  obtain ⟨d, hdd⟩ : ∃ d, ((a : Int) % 281474976710656 + 281474976710656 - (b : Int) % 281474976710656) % 281474976710656 = d := ⟨_, rfl⟩
  have hr : 0 ≤ d ∧ d < 281474976710656 := by omega
  obtain ⟨hr1, hr2⟩ := hr
  rw [hdd] at hd
  have HD := Lib.hid hd; clear hd
  by_cases h : 140737488355328 ≤ d
  · have hdec := decide_eq_true h
    have HH := Lib.hid h
    go_enter Tryz.func122, Tryz.ntmps122
    go_wp2
    go_ret
    exact ⟨M.ret_int (by rw [HD.out, if_pos HH.out]), rfl⟩
  · have hdec := decide_eq_false h
    have HH := Lib.hid (show ¬ 140737488355328 ≤ d from h)
    clear h
    go_enter Tryz.func122, Tryz.ntmps122
    go_wp2
    go_ret
    exact ⟨M.ret_int (by rw [HD.out, if_neg (by have := HH.out; omega)]), rfl⟩

theorem seqLess_any (a b : Nat) (h1 : a < 18446744073709551616) (h2 : b < 18446744073709551616) (w : World) :
    Calls Tryz.prog 118 #[.int .u64 a, .int .u64 b] w fun e w' => e = .returned (.bool (decide (diffI a b < 0))) ∧ w = w' := by
  go_enter Tryz.func118, Tryz.ntmps118
  go_wp2_with fail
  refine (seqDiff_any a b h1 h2 _).mono ?_
  rintro e w' ⟨rfl, rfl⟩
  go_wp2
  go_ret
  exact ⟨rfl, rfl⟩

theorem refLess_any (a b : Nat) (h1 : a < 18446744073709551616) (h2 : b < 18446744073709551616) (w : World) :
    Calls Tryz.prog 94 #[.int .u64 a, .int .u64 b] w fun e w' => e = .returned (.bool (decide (diffI a b < 0))) ∧ w = w' := by
  go_enter Tryz.func94, Tryz.ntmps94
  go_wp2_with fail
  refine (refDiff_any a b h1 h2 _).mono ?_
  rintro e w' ⟨rfl, rfl⟩
  go_wp2
  go_ret
  exact ⟨rfl, rfl⟩

theorem seqIn_any (a b c : Nat) (h1 : a < 18446744073709551616) (h2 : b < 18446744073709551616) (h3 : c < 18446744073709551616) (w : World) :
    Calls Tryz.prog 154 #[.int .u64 a, .int .u64 b, .int .u64 c] w fun e w' => e = .returned (.bool (inB a b c)) ∧ w = w' := by
  have hm := M.and48
  have hi : inB a b c = decide (((b : Int) - a) % 281474976710656 ≤ ((c : Int) - a) % 281474976710656) := rfl
  have HI := Lib.hid hi; clear hi
  go_enter Tryz.func154, Tryz.ntmps154
  go_wp2
  go_ret
  exact ⟨M.ret_bool (by rw [HI.out, Bool.eq_iff_iff]; simp only [IntKind.wrap_u64]; first | omega | (simp; done) | (simp; omega)), rfl⟩

theorem refIn_any (a b c : Nat) (h1 : a < 18446744073709551616) (h2 : b < 18446744073709551616) (h3 : c < 18446744073709551616) (w : World) :
    Calls Tryz.prog 92 #[.int .u64 a, .int .u64 b, .int .u64 c] w fun e w' => e = .returned (.bool (inB a b c)) ∧ w = w' := by
  have hi : inB a b c = decide (((b : Int) - a) % 281474976710656 ≤ ((c : Int) - a) % 281474976710656) := rfl
  have HI := Lib.hid hi; clear hi
  go_enter Tryz.func92, Tryz.ntmps92
  go_wp2
  go_ret
  exact ⟨M.ret_bool (by rw [HI.out, Bool.eq_iff_iff]; simp only [IntKind.wrap_u64, tmod_of_emod]; first | omega | (simp; done) | (simp; omega)), rfl⟩

theorem seqShort_any (a : Nat) (h1 : a < 18446744073709551616) (w : World) :
    Calls Tryz.prog 97 #[.int .u64 a] w fun e w' => e = .returned (.int .u32 ((a : Int) % 16777216)) ∧ w = w' := by
  have hm := M.and24
  go_enter Tryz.func97, Tryz.ntmps97
  go_wp2
  go_ret
  exact ⟨M.ret_int (by first | rfl | omega | (simp; omega)), rfl⟩

theorem longI_spec (s n : Int) : longI s n % 16777216 = s % 16777216 ∧ 0 ≤ longI s n ∧ longI s n < 281474976710656
    ∧ -8388608 ≤ diffI (longI s n) n ∧ diffI (longI s n) n < 8388608 := by
  unfold longI stepI diffI; omega

theorem signed24 (x : Int) : wrap64 (x % 18446744073709551616 * 1099511627776 % 18446744073709551616) / 1099511627776 = (x + 8388608) % 16777216 - 8388608 := by
  unfold wrap64; omega
theorem seqLong_any (s n : Nat) (h1 : s < 4294967296) (h2 : n < 18446744073709551616) (w : World) :
    Calls Tryz.prog 96 #[.int .u32 s, .int .u64 n] w fun e w' => e = .returned (.int .u64 (longI s n)) ∧ w = w' := by
  have hm := M.and48
  have hs := signed24 ((s : Int) - n)
  have HS := Lib.hid hs; clear hs
  go_enter Tryz.func96, Tryz.ntmps96
  go_wp2
  go_ret
  exact ⟨M.ret_int (by have := HS.out; unfold longI stepI; simp only [IntKind.wrap_u64]; simp; omega), rfl⟩
/-! ### The greatest of several -/
def maxStep (s x : Nat) : Nat := if diffI s x < 0 then x else s
def maxI (s : Nat) (xs : List Nat) : Nat := xs.foldl maxStep s
theorem maxI_snoc (s : Nat) (xs : List Nat) (x : Nat) : maxI s (xs ++ [x]) = maxStep (maxI s xs) x := by simp [maxI]
theorem maxI_lt (xs : List Nat) : ∀ s, s < 18446744073709551616 → (∀ x ∈ xs, x < 18446744073709551616) → maxI s xs < 18446744073709551616 := by
  induction xs with
  | nil => intro s h _; exact h
  | cons x xs ih =>
    intro s h hx
    refine ih _ ?_ (fun y hy => hx y (List.mem_cons_of_mem _ hy))
    unfold maxStep; split
    · exact hx x (List.mem_cons_self ..)
    · exact h
theorem take_snoc_nat (xs : List Nat) (k : Nat) (h : k < xs.length) : xs.take (k + 1) = xs.take k ++ [xs.getD k 0] := by
  rw [List.take_succ_eq_append_getElem h]; congr 2; simp [h]

theorem seqMax_none (s : Nat) (h1 : s < 18446744073709551616) (a : Option Addr) (cap : Nat) (w : World) :
    Calls Tryz.prog 100 #[.int .u64 s, .slice a 0 cap] w fun e w' => e = .returned (.int .u64 ((s : Int) % 281474976710656)) ∧ w = w' := by
  have hm := M.and48
  go_enter Tryz.func100, Tryz.ntmps100
  go_wp2
  go_loop [0, 9] (fun u k => u = .int .u64 s ∧ k = .int .i64 0) (fun _ k => (0 - intOf k).toNat)
  case atStart => exact ⟨rfl, rfl⟩
  case round =>
    obtain ⟨rfl, rfl⟩ := hrel
    go_wp2
    go_ret
    exact ⟨rfl, rfl⟩

theorem seqMax_any (s : Nat) (h1 : s < 18446744073709551616) (a : Addr) (xs : List Nat) (cap : Nat) (hxs : ∀ x ∈ xs, x < 18446744073709551616) (hlen : xs.length ≤ 9223372036854775807) (w : World)
    (hc : ∀ i, i < xs.length → w.cell? (a.add i) = some (.int .u64 (xs.getD i 0 : Nat))) :
    Calls Tryz.prog 100 #[.int .u64 s, .slice (some a) xs.length cap] w fun e w' => e = .returned (.int .u64 ((maxI s xs : Int) % 281474976710656)) ∧ w = w' := by
  have hm := M.and48
  have HC := Lib.hid hc; clear hc
  go_enter Tryz.func100, Tryz.ntmps100
  go_wp2
  go_loop [0, 9] (fun u k => ∃ kn : Nat, kn ≤ xs.length ∧ u = .int .u64 (maxI s (xs.take kn)) ∧ k = .int .i64 kn) (fun _ k => xs.length - (intOf k).toNat)
  case atStart => exact ⟨0, Nat.zero_le _, rfl, rfl⟩
  case round =>
    obtain ⟨kn, hk, rfl, rfl⟩ := hrel
    have hmx := maxI_lt (xs.take kn) s h1 (fun x hx => hxs x (List.mem_of_mem_take hx))
    by_cases hlt : kn < xs.length
    · have hcell := HC.out kn hlt
      have hx : xs.getD kn 0 < 18446744073709551616 := by
        have e : xs.getD kn 0 = xs[kn] := by simp [hlt]
        rw [e]; exact hxs _ (List.getElem_mem hlt)
      have hsn := maxI_snoc s (xs.take kn) (xs.getD kn 0)
      rw [← take_snoc_nat xs kn hlt] at hsn
      generalize maxI s (xs.take kn) = m at *
      generalize xs.getD kn 0 = x at *
      generalize hm2 : maxI s (xs.take (kn + 1)) = m2 at *
      have HM2 := Lib.hid hm2; clear hm2
      have hl := Lib.hid (fun w => seqLess_any m x hmx hx w)
      have hst : maxStep m x = if diffI m x < 0 then x else m := rfl
      rw [hst] at hsn
      by_cases hd : diffI m x < 0
      · rw [if_pos hd] at hsn
        have HS := Lib.hid hsn; clear hsn hst
        rw [decide_eq_true hd] at hl
        go_wp2_with fail
        refine (hl.out _).mono ?_
        rintro e w' ⟨rfl, rfl⟩
        go_wp2
        go_round
        case rel => exact ⟨kn + 1, by omega, by rw [HM2.out, HS.out], by go_num⟩
        case measure => simp [intOf]; omega
      · rw [if_neg hd] at hsn
        have HS := Lib.hid hsn; clear hsn hst
        rw [decide_eq_false hd] at hl
        go_wp2_with fail
        refine (hl.out _).mono ?_
        rintro e w' ⟨rfl, rfl⟩
        go_wp2
        go_round
        case rel => exact ⟨kn + 1, by omega, by rw [HM2.out, HS.out], by go_num⟩
        case measure => simp [intOf]; omega
    · obtain rfl : kn = xs.length := by omega
      have ht : xs.take xs.length = xs := List.take_length
      rw [ht] at *
      generalize hmg : maxI s xs = m at *
      have HMG := Lib.hid hmg; clear hmg
      go_wp2
      go_ret
      exact ⟨M.ret_int (by rw [HMG.out]), rfl⟩
end Go.Proofs.YtnhlachoimlhhaaGreatDoor
