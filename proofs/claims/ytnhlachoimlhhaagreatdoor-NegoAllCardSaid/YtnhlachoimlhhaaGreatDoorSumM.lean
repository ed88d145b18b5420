/-
  What the functions of package sum come to.
  What sum.Of, sum.Fits, sum.Covered and the document's own answers come to.
-/
import Derived.Test.YtnhlachoimlhhaaGreatDoorChecked
import Derived.Test.YtnhlachoimlhhaaGreatDoorSumMath
import Derived.ProofKit
import Derived.LoopTactic
import Derived.Outline
namespace Go.Proofs.YtnhlachoimlhhaaGreatDoor
open Go.ChangeShapes Go.WideShapes Go.ChangeAt Go.RowKit
set_option linter.unusedVariables false

theorem turned_any (t : Nat) (h : t ≤ 4611686018427387904) (w : World) :
    Calls Tryz.prog 242 #[.int .i64 t] w fun e w' => e = .returned (.int .i64 (65535 - M.fold16 t : Nat)) ∧ w = w' := by
  go_enter Tryz.func242, Tryz.ntmps242
  go_wp2
  go_loop [0] (fun u => ∃ x : Nat, u = .int .i64 x ∧ x ≤ 4611686018427387904 ∧ Hid (M.fold16 x = M.fold16 t)) (fun u => (intOf u).toNat)
  case atStart => exact ⟨t, rfl, h, Lib.hid rfl⟩
  case round =>
    obtain ⟨x, rfl, hx, hf⟩ := hrel
    by_cases hgt : 65535 < x
    · have hm := M.i64_mask16 x (by omega)
      obtain ⟨y, hy⟩ : ∃ y, x % 65536 = y := ⟨_, rfl⟩
      rw [hy] at hm
      have hy2 : y + x / 65536 < x := by omega
      have HS := Lib.hid (M.fold16_step hgt)
      rw [hy] at HS
      have HY := Lib.hid hy; clear hy
      go_wp2
      go_round
      case rel => exact ⟨y + x / 65536, by simp, by omega, Lib.hid (by rw [HS.out]; exact hf.out)⟩
      case measure => simp [intOf]; omega
    · have hm := M.i64_xor16 x (by omega)
      go_wp2
      go_ret
      exact ⟨M.ret_int (by rw [← hf.out, M.fold16_small (by omega)]), rfl⟩

theorem words_any (a : Addr) (ss : List ByteArray) (cap : Nat) (hn : ss.length ≤ 9223372036854775807) (hsz : ∀ s ∈ ss, s.size ≤ maxLen) (hlen : (M.joined ss).length ≤ 17179869184) (w : World)
    (hc : ∀ i, i < ss.length → w.cell? (a.add i) = some (.string (ss.getD i ByteArray.empty))) :
    Calls Tryz.prog 243 #[.slice (some a) ss.length cap] w fun e w' => e = .returned (.int .i64 (M.wsum true (M.joined ss))) ∧ w = w' := by
  have HC := Lib.hid hc; clear hc
  have HSZ := Lib.hid hsz; clear hsz
  go_enter Tryz.func243, Tryz.ntmps243
  go_wp2
  go_loop [3, 4, 10] (fun u v k => ∃ kn : Nat, kn ≤ ss.length ∧ u = .int .i64 (M.wsum true (M.joined (ss.take kn))) ∧ v = .int .i64 (M.shiftAt (M.joined (ss.take kn)).length) ∧ k = .int .i64 kn) (fun _ _ k => ss.length - (intOf k).toNat)
  case atStart => exact ⟨0, Nat.zero_le _, rfl, rfl, rfl⟩
  case round =>
    obtain ⟨kn, hk, rfl, rfl, rfl⟩ := hrel
    by_cases hlt : kn < ss.length
    · have hcell := HC.out kn hlt
      have hj := M.joined_take ss kn hlt
      have hjl := M.joined_take_le ss (kn + 1)
      have hs : (ss.getD kn ByteArray.empty).size ≤ maxLen := by
        have e : ss.getD kn ByteArray.empty = ss[kn] := by simp [hlt]
        rw [e]; exact HSZ.out _ (List.getElem_mem hlt)
      unfold maxLen at hs
      generalize ss.getD kn ByteArray.empty = s at *
      generalize M.joined (ss.take kn) = pre at *
      rw [hj] at hjl
      have HJ := Lib.hid hj; clear hj
      simp only [List.length_append, Array.length_toList] at hjl
      have hss : s.data.size = s.size := rfl
      rw [hss] at hjl
      clear hss
      go_wp2
      go_loop [3, 4, 16] (fun u v k => ∃ i : Nat, i ≤ s.size ∧ u = .int .i64 (M.wsum true (pre ++ s.data.toList.take i)) ∧ v = .int .i64 (M.shiftAt (pre ++ s.data.toList.take i).length) ∧ k = .int .i64 i) (fun _ _ k => s.size - (intOf k).toNat)
      case atStart => exact ⟨0, Nat.zero_le _, by simp, by simp, rfl⟩
      case round =>
        obtain ⟨i, hi, rfl, rfl, rfl⟩ := hrel
        by_cases hil : i < s.size
        · have hb := M.bytes_take s i hil
          have hl : (pre ++ s.data.toList.take i).length = pre.length + i := by simp; omega
          have hsn := M.wsum_snoc (pre ++ s.data.toList.take i) s[i]
          have hle := M.wsum_le (pre ++ s.data.toList.take i) true
          rw [List.append_assoc, ← hb, hl] at hsn
          rw [hl] at hle
          have hb2 : (s[i]).toNat < 256 := (s[i]).toNat_lt
          have hl2 : (pre ++ s.data.toList.take (i + 1)).length = pre.length + i + 1 := by simp; omega
          simp only [hl]
          generalize M.wsum true (pre ++ s.data.toList.take i) = m at *
          have HSN := Lib.hid hsn
          have HL2 := Lib.hid hl2
          clear hsn hl hl2 hb
          by_cases hp : (pre.length + i) % 2 = 0
          · have h1 := M.shiftAt_even hp
            have h2 := M.shiftAt_odd (n := pre.length + i + 1) (by omega)
            rw [h1]
            have HP := Lib.hid hp; have H2 := Lib.hid h2; clear hp h1 h2
            go_wp2
            go_round
            case rel => exact ⟨i + 1, by omega, by rw [HSN.out, if_pos HP.out]; go_num, by rw [HL2.out, H2.out]; rfl, by go_num⟩
            case measure => simp [intOf]; omega
          · have h1 := M.shiftAt_odd hp
            have h2 := M.shiftAt_even (n := pre.length + i + 1) (by omega)
            rw [h1]
            have HP := Lib.hid hp; have H2 := Lib.hid h2; clear hp h1 h2
            go_wp2
            go_round
            case rel => exact ⟨i + 1, by omega, by rw [HSN.out, if_neg HP.out]; go_num, by rw [HL2.out, H2.out]; rfl, by go_num⟩
            case measure => simp [intOf]; omega
        · obtain rfl : i = s.size := by omega
          have ht : s.data.toList.take s.size = s.data.toList := List.take_of_length_le (by simp)
          rw [ht, ← HJ.out]
          go_wp2
          go_round
          case rel => exact ⟨kn + 1, by omega, rfl, rfl, by go_num⟩
          case measure => simp [intOf]; omega
    · obtain rfl : kn = ss.length := by omega
      have ht : ss.take ss.length = ss := List.take_length
      rw [ht] at *
      generalize hmg : M.wsum true (M.joined ss) = m at *
      have HMG := Lib.hid hmg; clear hmg
      go_wp2
      go_ret
      exact ⟨M.ret_int (by rw [HMG.out]), rfl⟩
end Go.Proofs.YtnhlachoimlhhaaGreatDoor

namespace Go.Proofs.YtnhlachoimlhhaaGreatDoor
open Go.ChangeShapes Go.WideShapes Go.ChangeAt Go.RowKit
set_option linter.unusedVariables false

/-- A slice of texts, as it stands in memory. -/
structure StrsAt (w : World) (v : Value) (ss : List ByteArray) : Prop where
  at_ : (ss = [] ∧ ∃ a cap, v = .slice a 0 cap) ∨ ∃ a cap, v = .slice (some a) ss.length cap ∧ ∀ i, i < ss.length → w.cell? (a.add i) = some (.string (ss.getD i ByteArray.empty))
  len : ss.length ≤ 9223372036854775807
  size : ∀ s ∈ ss, s.size ≤ maxLen
  total : (M.joined ss).length ≤ 17179869184

theorem words_none (a : Option Addr) (cap : Nat) (w : World) :
    Calls Tryz.prog 243 #[.slice a 0 cap] w fun e w' => e = .returned (.int .i64 0) ∧ w = w' := by
  go_enter Tryz.func243, Tryz.ntmps243
  go_wp2
  go_loop [3, 4, 10] (fun u v k => u = .int .i64 0 ∧ v = .int .i64 8 ∧ k = .int .i64 0) (fun _ _ k => (0 - intOf k).toNat)
  case atStart => exact ⟨rfl, rfl, rfl⟩
  case round =>
    obtain ⟨rfl, rfl, rfl⟩ := hrel
    go_wp2
    go_ret
    exact ⟨rfl, rfl⟩

theorem words_at {w : World} {v : Value} {ss : List ByteArray} (h : StrsAt w v ss) :
    Calls Tryz.prog 243 #[v] w fun e w' => e = .returned (.int .i64 (M.wsum true (M.joined ss))) ∧ w = w' := by
  obtain ⟨h1, h2, h3, h4⟩ := h
  rcases h1 with ⟨rfl, a, cap, rfl⟩ | ⟨a, cap, rfl, hc⟩
  · exact words_none a cap w
  · exact words_any a ss cap h2 h3 h4 w hc

theorem sumOf_at {w : World} {v : Value} {ss : List ByteArray} (h : StrsAt w v ss) :
    Calls Tryz.prog 210 #[v] w fun e w' => e = .returned (.int .i64 (M.sum16 (M.joined ss))) ∧ w = w' := by
  have hb := M.wsum_le (M.joined ss) true
  have hl := h.total
  have HW := Lib.hid (words_at h)
  have HS : Hid (M.sum16 (M.joined ss) = 65535 - M.fold16 (M.wsum true (M.joined ss))) := Lib.hid rfl
  generalize M.wsum true (M.joined ss) = m at *
  have HT := Lib.hid (fun w => turned_any m (by omega) w)
  clear hb hl h
  go_enter Tryz.func210, Tryz.ntmps210
  go_wp2_with fail
  refine HW.out.mono ?_
  rintro e w' ⟨rfl, rfl⟩
  go_wp2_with fail
  refine (HT.out _).mono ?_
  rintro e w' ⟨rfl, rfl⟩
  go_wp2
  go_ret
  exact ⟨M.ret_int (by rw [HS.out]), rfl⟩

/-- Does a sum fit the bytes? -/
def fitsB (s : Int) (l : List UInt8) : Bool := decide (0 ≤ s ∧ s ≤ 65535 ∧ M.fold16 (M.wsum true l + s.toNat) = 65535)

/-! ### How much of a packet is summed -/
def covI (t o c : Int) : Int := if o < 0 ∨ t < o ∨ c < 0 ∨ 15 < c then 0 else if c = 0 then t else if t - o < 4 * (c - 1) then 0 else o + 4 * (c - 1)
def covB (t o c : Int) : Bool := decide (¬ (o < 0 ∨ t < o ∨ c < 0 ∨ 15 < c) ∧ (c = 0 ∨ ¬ t - o < 4 * (c - 1)))

theorem cov_bad {t o c : Int} (h : o < 0 ∨ t < o ∨ c < 0 ∨ 15 < c) : covI t o c = 0 ∧ covB t o c = false := by
  unfold covI covB; exact ⟨if_pos h, decide_eq_false (fun hh => hh.1 h)⟩
theorem cov_all {t o : Int} (h : ¬ (o < 0 ∨ t < o)) : covI t o 0 = t ∧ covB t o 0 = true := by
  unfold covI covB; exact ⟨by rw [if_neg (by omega), if_pos rfl], decide_eq_true ⟨by omega, .inl rfl⟩⟩
theorem cov_more {t o c : Int} (h : ¬ (o < 0 ∨ t < o ∨ c < 0 ∨ 15 < c)) (h0 : c ≠ 0) (h1 : t - o < 4 * (c - 1)) : covI t o c = 0 ∧ covB t o c = false := by
  unfold covI covB; exact ⟨by rw [if_neg h, if_neg h0, if_pos h1], decide_eq_false (fun hh => hh.2.elim h0 (fun k => k h1))⟩
theorem cov_part {t o c : Int} (h : ¬ (o < 0 ∨ t < o ∨ c < 0 ∨ 15 < c)) (h0 : c ≠ 0) (h1 : ¬ t - o < 4 * (c - 1)) : covI t o c = o + 4 * (c - 1) ∧ covB t o c = true := by
  unfold covI covB; exact ⟨by rw [if_neg h, if_neg h0, if_neg h1], decide_eq_true ⟨h, .inr h1⟩⟩

theorem ret_cov {a b : Int} {c d : Bool} (h : a = b ∧ c = d) : Ending.returned (.tuple #[.int .i64 b, .bool d]) = .returned (.tuple #[.int .i64 a, .bool c]) := by rw [h.1, h.2]

theorem covered_any (t o c : Int) (t1 : -9223372036854775808 ≤ t) (t2 : t ≤ 9223372036854775807) (o1 : -9223372036854775808 ≤ o) (o2 : o ≤ 9223372036854775807) (c1 : -9223372036854775808 ≤ c) (c2 : c ≤ 9223372036854775807) (w : World) :
    Calls Tryz.prog 265 #[.int .i64 t, .int .i64 o, .int .i64 c] w fun e w' => e = .returned (.tuple #[.int .i64 (covI t o c), .bool (covB t o c)]) ∧ w = w' := by
  by_cases h1 : o < 0
  · have d1 := decide_eq_true h1
    have HX := Lib.hid (cov_bad (t := t) (c := c) (.inl h1))
    go_enter Tryz.func265, Tryz.ntmps265
    go_wp2
    go_ret2
    exact ⟨ret_cov HX.out, rfl⟩
  have d1 := decide_eq_false h1
  by_cases h2 : t < o
  · have d2 := decide_eq_true h2
    have HX := Lib.hid (cov_bad (o := o) (c := c) (.inr (.inl h2)))
    go_enter Tryz.func265, Tryz.ntmps265
    go_wp2
    go_ret2
    exact ⟨ret_cov HX.out, rfl⟩
  have d2 := decide_eq_false h2
  by_cases h3 : c < 0
  · have d3 := decide_eq_true h3
    have HX := Lib.hid (cov_bad (o := o) (t := t) (.inr (.inr (.inl h3))))
    go_enter Tryz.func265, Tryz.ntmps265
    go_wp2
    go_ret2
    exact ⟨ret_cov HX.out, rfl⟩
  have d3 := decide_eq_false h3
  by_cases h4 : 15 < c
  · have d4 := decide_eq_true h4
    have HX := Lib.hid (cov_bad (o := o) (t := t) (.inr (.inr (.inr h4))))
    go_enter Tryz.func265, Tryz.ntmps265
    go_wp2
    go_ret2
    exact ⟨ret_cov HX.out, rfl⟩
  have d4 := decide_eq_false h4
  by_cases h5 : c = 0
  · subst h5
    have HX := Lib.hid (cov_all (o := o) (t := t) (by omega))
    go_enter Tryz.func265, Tryz.ntmps265
    go_wp2
    go_ret2
    exact ⟨ret_cov HX.out, rfl⟩
  have d5 : (c == 0) = false := by rw [beq_eq_false_iff_ne]; exact h5
  by_cases h6 : t - o < 4 * (c - 1)
  · have d6 := decide_eq_true h6
    have HX := Lib.hid (cov_more (by omega) h5 h6)
    clear h5
    go_enter Tryz.func265, Tryz.ntmps265
    go_wp2
    go_ret2
    exact ⟨ret_cov HX.out, rfl⟩
  · have d6 := decide_eq_false h6
    have HX := Lib.hid (cov_part (by omega) h5 h6)
    clear h5
    go_enter Tryz.func265, Tryz.ntmps265
    go_wp2
    go_ret2
    exact ⟨ret_cov HX.out, rfl⟩

end Go.Proofs.YtnhlachoimlhhaaGreatDoor
