/-
  What sum.Of, sum.Fits, sum.Covered and the document's own answers come to.
-/
import Derived.Test.YtagnbggldpjncaaGreatDoorSumA
namespace Go.Proofs.YtagnbggldpjncaaGreatDoor
open Go.ChangeShapes Go.WideShapes Go.ChangeAt Go.RowKit
set_option linter.unusedVariables false

/-- A slice of texts, as it stands in memory. -/
structure StrsAt (w : World) (v : Value) (ss : List ByteArray) : Prop where
  at_ : (ss = [] ∧ ∃ a cap, v = .slice a 0 cap) ∨ ∃ a cap, v = .slice (some a) ss.length cap ∧ ∀ i, i < ss.length → w.cell? (a.add i) = some (.string (ss.getD i ByteArray.empty))
  len : ss.length ≤ 9223372036854775807
  size : ∀ s ∈ ss, s.size ≤ maxLen
  total : (M.joined ss).length ≤ 17179869184

theorem words_none (a : Option Addr) (cap : Nat) (w : World) :
    Calls Tryz.prog 69 #[.slice a 0 cap] w fun e w' => e = .returned (.int .i64 0) ∧ w = w' := by
  go_enter Tryz.func69, Tryz.ntmps69
  go_wp2
  go_loop [3, 4, 10] (fun u v k => u = .int .i64 0 ∧ v = .int .i64 8 ∧ k = .int .i64 0) (fun _ _ k => (0 - intOf k).toNat)
  case atStart => exact ⟨rfl, rfl, rfl⟩
  case round =>
    obtain ⟨rfl, rfl, rfl⟩ := hrel
    go_wp2
    go_ret
    exact ⟨rfl, rfl⟩

theorem words_at {w : World} {v : Value} {ss : List ByteArray} (h : StrsAt w v ss) :
    Calls Tryz.prog 69 #[v] w fun e w' => e = .returned (.int .i64 (M.wsum true (M.joined ss))) ∧ w = w' := by
  obtain ⟨h1, h2, h3, h4⟩ := h
  rcases h1 with ⟨rfl, a, cap, rfl⟩ | ⟨a, cap, rfl, hc⟩
  · exact words_none a cap w
  · exact words_any a ss cap h2 h3 h4 w hc

theorem sumOf_at {w : World} {v : Value} {ss : List ByteArray} (h : StrsAt w v ss) :
    Calls Tryz.prog 47 #[v] w fun e w' => e = .returned (.int .i64 (M.sum16 (M.joined ss))) ∧ w = w' := by
  have hb := M.wsum_le (M.joined ss) true
  have hl := h.total
  have HW := Lib.hid (words_at h)
  have HS : Hid (M.sum16 (M.joined ss) = 65535 - M.fold16 (M.wsum true (M.joined ss))) := Lib.hid rfl
  generalize M.wsum true (M.joined ss) = m at *
  have HT := Lib.hid (fun w => turned_any m (by omega) w)
  clear hb hl h
  go_enter Tryz.func47, Tryz.ntmps47
  go_wp2_with fail
  refine HW.out.mono ?_
  rintro e w' ⟨rfl, rfl⟩
  go_wp2_with fail
  refine (HT.out _).mono ?_
  rintro e w' ⟨rfl, rfl⟩
  go_wp2
  go_ret
  exact ⟨M.ret_int (by rw [HS.out]), rfl⟩

/-- Does a sum fit the bytes? -/
def fitsB (s : Int) (l : List UInt8) : Bool := decide (0 ≤ s ∧ s ≤ 65535 ∧ M.fold16 (M.wsum true l + s.toNat) = 65535)

/-! ### How much of a packet is summed -/
def covI (t o c : Int) : Int := if o < 0 ∨ t < o ∨ c < 0 ∨ 15 < c then 0 else if c = 0 then t else if t - o < 4 * (c - 1) then 0 else o + 4 * (c - 1)
def covB (t o c : Int) : Bool := decide (¬ (o < 0 ∨ t < o ∨ c < 0 ∨ 15 < c) ∧ (c = 0 ∨ ¬ t - o < 4 * (c - 1)))

theorem cov_bad {t o c : Int} (h : o < 0 ∨ t < o ∨ c < 0 ∨ 15 < c) : covI t o c = 0 ∧ covB t o c = false := by
  unfold covI covB; exact ⟨if_pos h, decide_eq_false (fun hh => hh.1 h)⟩
theorem cov_all {t o : Int} (h : ¬ (o < 0 ∨ t < o)) : covI t o 0 = t ∧ covB t o 0 = true := by
  unfold covI covB; exact ⟨by rw [if_neg (by omega), if_pos rfl], decide_eq_true ⟨by omega, .inl rfl⟩⟩
theorem cov_more {t o c : Int} (h : ¬ (o < 0 ∨ t < o ∨ c < 0 ∨ 15 < c)) (h0 : c ≠ 0) (h1 : t - o < 4 * (c - 1)) : covI t o c = 0 ∧ covB t o c = false := by
  unfold covI covB; exact ⟨by rw [if_neg h, if_neg h0, if_pos h1], decide_eq_false (fun hh => hh.2.elim h0 (fun k => k h1))⟩
theorem cov_part {t o c : Int} (h : ¬ (o < 0 ∨ t < o ∨ c < 0 ∨ 15 < c)) (h0 : c ≠ 0) (h1 : ¬ t - o < 4 * (c - 1)) : covI t o c = o + 4 * (c - 1) ∧ covB t o c = true := by
  unfold covI covB; exact ⟨by rw [if_neg h, if_neg h0, if_neg h1], decide_eq_true ⟨h, .inr h1⟩⟩

theorem ret_cov {a b : Int} {c d : Bool} (h : a = b ∧ c = d) : Ending.returned (.tuple #[.int .i64 b, .bool d]) = .returned (.tuple #[.int .i64 a, .bool c]) := by rw [h.1, h.2]

theorem covered_any (t o c : Int) (t1 : -9223372036854775808 ≤ t) (t2 : t ≤ 9223372036854775807) (o1 : -9223372036854775808 ≤ o) (o2 : o ≤ 9223372036854775807) (c1 : -9223372036854775808 ≤ c) (c2 : c ≤ 9223372036854775807) (w : World) :
    Calls Tryz.prog 89 #[.int .i64 t, .int .i64 o, .int .i64 c] w fun e w' => e = .returned (.tuple #[.int .i64 (covI t o c), .bool (covB t o c)]) ∧ w = w' := by
  by_cases h1 : o < 0
  · have d1 := decide_eq_true h1
    have HX := Lib.hid (cov_bad (t := t) (c := c) (.inl h1))
    go_enter Tryz.func89, Tryz.ntmps89
    go_wp2
    go_ret2
    exact ⟨ret_cov HX.out, rfl⟩
  have d1 := decide_eq_false h1
  by_cases h2 : t < o
  · have d2 := decide_eq_true h2
    have HX := Lib.hid (cov_bad (o := o) (c := c) (.inr (.inl h2)))
    go_enter Tryz.func89, Tryz.ntmps89
    go_wp2
    go_ret2
    exact ⟨ret_cov HX.out, rfl⟩
  have d2 := decide_eq_false h2
  by_cases h3 : c < 0
  · have d3 := decide_eq_true h3
    have HX := Lib.hid (cov_bad (o := o) (t := t) (.inr (.inr (.inl h3))))
    go_enter Tryz.func89, Tryz.ntmps89
    go_wp2
    go_ret2
    exact ⟨ret_cov HX.out, rfl⟩
  have d3 := decide_eq_false h3
  by_cases h4 : 15 < c
  · have d4 := decide_eq_true h4
    have HX := Lib.hid (cov_bad (o := o) (t := t) (.inr (.inr (.inr h4))))
    go_enter Tryz.func89, Tryz.ntmps89
    go_wp2
    go_ret2
    exact ⟨ret_cov HX.out, rfl⟩
  have d4 := decide_eq_false h4
  by_cases h5 : c = 0
  · subst h5
    have HX := Lib.hid (cov_all (o := o) (t := t) (by omega))
    go_enter Tryz.func89, Tryz.ntmps89
    go_wp2
    go_ret2
    exact ⟨ret_cov HX.out, rfl⟩
  have d5 : (c == 0) = false := by rw [beq_eq_false_iff_ne]; exact h5
  by_cases h6 : t - o < 4 * (c - 1)
  · have d6 := decide_eq_true h6
    have HX := Lib.hid (cov_more (by omega) h5 h6)
    clear h5
    go_enter Tryz.func89, Tryz.ntmps89
    go_wp2
    go_ret2
    exact ⟨ret_cov HX.out, rfl⟩
  · have d6 := decide_eq_false h6
    have HX := Lib.hid (cov_part (by omega) h5 h6)
    clear h5
    go_enter Tryz.func89, Tryz.ntmps89
    go_wp2
    go_ret2
    exact ⟨ret_cov HX.out, rfl⟩

end Go.Proofs.YtagnbggldpjncaaGreatDoor
