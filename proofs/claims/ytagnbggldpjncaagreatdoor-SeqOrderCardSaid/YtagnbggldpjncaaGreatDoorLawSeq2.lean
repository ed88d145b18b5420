/-
  The law SeqOrder, walked.
-/
import Derived.Test.YtagnbggldpjncaaGreatDoorLawSeq
import Derived.BigGuardPart
namespace Go.Proofs.YtagnbggldpjncaaGreatDoor
open Go.ChangeShapes Go.WideShapes Go.ChangeAt Go.RowKit
set_option linter.unusedVariables false

theorem addN_any (s : Nat) (X : Int) (b : Nat) (hs : s < 18446744073709551616) (hX0 : 0 ≤ X) (hX : X < 35184372088832) (hb : stepI s X = b) (w : World) :
    Calls Tryz.prog 32 #[.int .u64 s, .int .i64 X] w fun e w' => e = .returned (.int .u64 b) ∧ w = w' := by
  have h := seqAdd_any s X hs (by omega) (by omega) w
  rwa [hb] at h
theorem lessN_any (a b : Nat) (r : Bool) (h1 : a < 18446744073709551616) (h2 : b < 18446744073709551616) (hr : decide (diffI a b < 0) = r) (w : World) :
    Calls Tryz.prog 36 #[.int .u64 a, .int .u64 b] w fun e w' => e = .returned (.bool r) ∧ w = w' := by
  have h := seqLess_any a b h1 h2 w
  rwa [hr] at h
theorem inN_any (a b c : Nat) (r : Bool) (h1 : a < 18446744073709551616) (h2 : b < 18446744073709551616) (h3 : c < 18446744073709551616) (hr : inB a b c = r) (w : World) :
    Calls Tryz.prog 38 #[.int .u64 a, .int .u64 b, .int .u64 c] w fun e w' => e = .returned (.bool r) ∧ w = w' := by
  have h := seqIn_any a b c h1 h2 h3 w
  rwa [hr] at h
theorem max2_any (a c b : Nat) (r : Nat) (h1 : a < 18446744073709551616) (h2 : c < 18446744073709551616) (h3 : b < 18446744073709551616) (hr : (maxI a [c, b] : Int) % 281474976710656 = r) (w : World) :
    Calls Tryz.prog 40 #[.int .u64 a, .slice (some ⟨w.heap.size, 0, none⟩) 2 2] (w.alloc (.cells #[.int .u64 c, .int .u64 b] 22)) fun e w' => e = .returned (.int .u64 r) ∧ w.alloc (.cells #[.int .u64 c, .int .u64 b] 22) = w' := by
  have h := seqMax_any a h1 ⟨w.heap.size, 0, none⟩ [c, b] 2 (by intro x hx; simp at hx; omega) (by simp) (w.alloc (.cells #[.int .u64 c, .int .u64 b] 22)) (fun i hi => by
    have hadd : (⟨w.heap.size, 0, none⟩ : Addr).add i = ⟨w.heap.size, 0 + i, none⟩ := by unfold Addr.add; split <;> simp_all
    rw [hadd, cell_of_row _ _ _ _ _ _ (heap_alloc_new w _)]
    have : i = 0 ∨ i = 1 := by simp at hi; omega
    rcases this with rfl | rfl <;> rfl)
  rw [hr] at h
  exact h

/-- What becomes of a number that is made positive. -/
theorem abs_cases (k N : Int) (h1 : -N < k) (h2 : k < N) : ∃ X : Int, 0 ≤ X ∧ X < N ∧ ((decide (k < 0) = true ∧ -k = X) ∨ (k = X)) := by
  by_cases h : k < 0
  · exact ⟨-k, by omega, by omega, .inl ⟨decide_eq_true h, rfl⟩⟩
  · exact ⟨k, by omega, by omega, .inr rfl⟩

set_option maxHeartbeats 4000000 in
set_option maxRecDepth 100000 in
theorem seqOrder_walk (a : Nat) (x y : Int) (ha : a < 18446744073709551616) (h2 : -9223372036854775808 ≤ x) (h3 : x ≤ 9223372036854775807) (h4 : -9223372036854775808 ≤ y) (h5 : y ≤ 9223372036854775807) (w : World) :
    Calls Tryz.prog 11 #[.int .u64 a, .int .i64 x, .int .i64 y] w fun e w' => e = .returned (.bool true) ∧ Below w.heap.size w w' := by
  obtain ⟨m1, m2⟩ := tmod_in x 35184372088832 (by decide)
  obtain ⟨m3, m4⟩ := tmod_in y 35184372088832 (by decide)
  obtain ⟨k, hk⟩ : ∃ k, x.tmod 35184372088832 = k := ⟨_, rfl⟩
  obtain ⟨j, hj⟩ : ∃ j, y.tmod 35184372088832 = j := ⟨_, rfl⟩
  rw [hk] at m1 m2
  rw [hj] at m3 m4
  obtain ⟨X, hX0, hX, hkx⟩ := abs_cases k _ m1 m2
  obtain ⟨Y, hY0, hY, hjy⟩ := abs_cases j _ m3 m4
  obtain ⟨f1, f2, f3, f4, f5, f6⟩ := order_facts a X Y hX0 hX hY0 hY
  obtain ⟨b, hb⟩ := Int.eq_ofNat_of_zero_le (stepI_in a X).1
  have hbl : b < 18446744073709551616 := by have := (stepI_in a X).2; omega
  obtain ⟨c, hc⟩ := Int.eq_ofNat_of_zero_le (stepI_in (stepI a X) Y).1
  have hcl : c < 18446744073709551616 := by have := (stepI_in (stepI a X) Y).2; omega
  have hmx := max_two a X Y b c hb hc hX0 hX hY0 hY
  rw [hb] at f1 f2 f3 f4 f5 hc
  rw [hc] at f2 f3 f4 f5
  obtain ⟨bx, gx⟩ : ∃ bx, decide (0 < X) = bx := ⟨_, rfl⟩
  obtain ⟨by_, gy⟩ : ∃ by_, decide (0 < Y) = by_ := ⟨_, rfl⟩
  obtain ⟨bz, gz⟩ : ∃ bz, decide (Y = 0) = bz := ⟨_, rfl⟩
  rw [gx] at f1 f3
  rw [gy] at f2 f3
  rw [gz] at f5
  have HA := Lib.hid (fun w => addN_any a X b ha hX0 hX hb w)
  have HC := Lib.hid (fun w => addN_any b Y c hbl hY0 hY hc w)
  have HM := Lib.hid (fun w => max2_any a c b c ha hcl hbl hmx w)
  have HL1 := Lib.hid (fun w => lessN_any a b _ ha hbl f1 w)
  have HL2 := Lib.hid (fun w => lessN_any b c _ hbl hcl f2 w)
  have HL3 := Lib.hid (fun w => lessN_any a c _ ha hcl f3 w)
  have HI1 := Lib.hid (fun w => inN_any a b c _ ha hbl hcl f4 w)
  have HI2 := Lib.hid (fun w => inN_any a c b _ ha hcl hbl f5 w)
  have gz' : (Y == 0) = bz := by rw [← gz, Bool.eq_iff_iff]; simp
  clear f1 f2 f3 f4 f5 f6 hb hc hmx gz
  rcases hkx with ⟨dk, k2⟩ | rfl <;> rcases hjy with ⟨dj, j2⟩ | rfl
  all_goals (
    go_enter Tryz.func11, Tryz.ntmps11
    go_wp2_with (first
      | (go_at_call 15; refine (begun_any _).mono ?_; rintro e w0 ⟨rfl, hb0⟩)
      | (go_at_call 32; (first | (with_reducible refine (HA.out _).mono ?_) | (with_reducible refine (HC.out _).mono ?_)); rintro e w1 ⟨rfl, rfl⟩)
      | (go_at_call 36; (first | (with_reducible refine (HL1.out _).mono ?_) | (with_reducible refine (HL2.out _).mono ?_) | (with_reducible refine (HL3.out _).mono ?_)); rintro e w1 ⟨rfl, rfl⟩)
      | (go_at_call 38; (first | (with_reducible refine (HI1.out _).mono ?_) | (with_reducible refine (HI2.out _).mono ?_)); rintro e w1 ⟨rfl, rfl⟩)
      | (go_at_call 40; refine (HM.out _).mono ?_; rintro e w1 ⟨rfl, rfl⟩))
    all_goals go_ret
    all_goals exact ⟨rfl, hb0.alloc hb0.size _⟩)
end Go.Proofs.YtagnbggldpjncaaGreatDoor
