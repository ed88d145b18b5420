/-
  The law OptNumber, walked.
-/
import Derived.Test.YtdlpapchjjbplaaGreatDoorLawSum
import Derived.Test.YtdlpapchjjbplaaGreatDoorNumA
namespace Go.Proofs.YtdlpapchjjbplaaGreatDoor
open Go.ChangeShapes Go.WideShapes Go.ChangeAt Go.RowKit
set_option linter.unusedVariables false

theorem optBytes_noB (n k : Int) (h : k < 1 ∨ 8 < k) (w : World) :
    Calls Tryz.prog 43 #[.int .u64 n, .int .i64 k] w fun e w' => e = .returned (.string ⟨#[]⟩) ∧ Below w.heap.size w w' :=
  (optBytes_no n k h w).mono fun e w' h => ⟨h.1, h.2 ▸ Below.refl _ _⟩

theorem pow_wrap (K : Nat) (h : K < 8) : IntKind.u64.wrap (2 ^ (8 * K)) = ((256 ^ K : Nat) : Int) := by
  have : ∀ K : Fin 8, IntKind.u64.wrap (2 ^ (8 * K.val)) = ((256 ^ K.val : Nat) : Int) := by decide +kernel
  exact this ⟨K, h⟩

set_option maxHeartbeats 8000000 in
set_option maxRecDepth 100000 in
theorem optNumber_walk (n : Nat) (k : Int) (s : ByteArray) (hn : n < 18446744073709551616) (h1 : -9223372036854775808 ≤ k) (h2 : k ≤ 9223372036854775807) (hs : s.size ≤ maxLen) (w : World) :
    Calls Tryz.prog 7 #[.int .u64 n, .int .i64 k, .string s] w fun e w' => e = .returned (.bool true) ∧ Below w.heap.size w w' := by
  obtain ⟨l, hl, hll⟩ : ∃ l, s.data.toList.take 12 = l ∧ l.length ≤ 12 := ⟨_, rfl, by simp; omega⟩
  have HT := Lib.hid (fun w => textN_any s 12 12 l rfl (by omega) hs hl w)
  obtain ⟨bl, hbl⟩ : ∃ b, str l = b := ⟨_, rfl⟩
  have hbs : bl.size = l.length := by rw [← hbl]; rfl
  have HSP : ∃ (X : Nat) (mb : Bool), Hid (∀ w, Calls Tryz.prog 41 #[.string bl] w fun e w' => e = .returned (.tuple #[.int .u64 X, .bool mb]) ∧ w = w') ∧
      ((mb = true ∧ 1 ≤ bl.size ∧ bl.size ≤ 8 ∧ Hid (∀ w, Calls Tryz.prog 42 #[.string bl] w fun e w' => e = .returned (.int .u64 X) ∧ w = w')) ∨ (mb = false ∧ X = 0 ∧ bl.size < 1) ∨ (mb = false ∧ X = 0 ∧ 8 < bl.size)) := by
    rw [← hbl]
    by_cases hm : 1 ≤ l.length ∧ l.length ≤ 8
    · exact ⟨beNum l, true, Lib.hid (optNumber_yes l hm.1 hm.2), .inl ⟨rfl, hm.1, hm.2, Lib.hid (refNumber_any l hm.2)⟩⟩
    · have hm' : l.length < 1 ∨ 8 < l.length := by omega
      refine ⟨0, false, Lib.hid (optNumber_no l hm' (by omega)), ?_⟩
      rcases hm' with h | h
      · exact .inr (.inl ⟨rfl, rfl, h⟩)
      · exact .inr (.inr ⟨rfl, rfl, h⟩)
  rw [hbl] at HT
  clear hl hs hbl hbs hll
  obtain ⟨X, mb, HN, hsp⟩ := HSP
  by_cases hk : k < 1 ∨ 8 < k
  · have HB := Lib.hid (optBytes_noB n k hk)
    rcases hsp with ⟨rfl, a1, a2, HR⟩ | ⟨rfl, rfl, a1⟩ | ⟨rfl, rfl, a1⟩ <;> rcases hk with hk | hk
    all_goals
      go_enter Tryz.func7, Tryz.ntmps7
      go_wp2_with (first
        | (go_at_call 15; refine (begun_any _).mono ?_; rintro e w0 ⟨rfl, hb0⟩)
        | (go_at_call 16; (with_reducible refine (HT.out _).mono ?_); rintro e w1 ⟨rfl, rfl⟩)
        | (go_at_call 41; (with_reducible refine (HN.out _).mono ?_); rintro e w1 ⟨rfl, rfl⟩)
        | (go_at_call 42; (with_reducible refine (HR.out _).mono ?_); rintro e w1 ⟨rfl, rfl⟩)
        | (go_at_call 43; (with_reducible refine (HB.out _).mono ?_); rintro e w1 ⟨rfl, hb1⟩))
      all_goals go_ret
      all_goals exact ⟨rfl, bel_trans hb0 hb1⟩
  · obtain ⟨K, rfl⟩ : ∃ K : Nat, k = (K : Int) := ⟨k.toNat, by omega⟩
    have hK1 : 1 ≤ K := by omega
    have hK8 : K ≤ 8 := by omega
    obtain ⟨bb, hbb⟩ : ∃ b, str (beBytes K n) = b := ⟨_, rfl⟩
    have HB := Lib.hid (optBytes_yes n K hK1 hK8 hn)
    have HRB := Lib.hid (refBytes_any n K hn (by omega))
    have HY := Lib.hid (optNumber_yes (beBytes K n) (by rw [beBytes_length]; exact hK1) (by rw [beBytes_length]; exact hK8))
    rw [beNum_be, hbb] at HY
    rw [hbb] at HB HRB
    have k1 : ¬ K < 1 := by omega
    have k2 : ¬ 8 < K := by omega
    clear hbb hk h1 h2
    have hk8 : K = 8 ∨ K < 8 := by omega
    rcases hk8 with rfl | hk8
    · rw [Nat.mod_eq_of_lt (show n < 256 ^ 8 by omega)] at HY
      rw [show (((8 : Nat)) : Int) = 8 from rfl] at HB HRB ⊢
      clear k1 k2 hK1 hK8
      rcases hsp with ⟨rfl, a1, a2, HR⟩ | ⟨rfl, rfl, a1⟩ | ⟨rfl, rfl, a1⟩
      all_goals
        go_enter Tryz.func7, Tryz.ntmps7
        go_wp2_with (first
          | (go_at_call 15; refine (begun_any _).mono ?_; rintro e w0 ⟨rfl, hb0⟩)
          | (go_at_call 16; (with_reducible refine (HT.out _).mono ?_); rintro e w1 ⟨rfl, rfl⟩)
          | (go_at_call 41; (first | (with_reducible refine (HN.out _).mono ?_) | (with_reducible refine (HY.out _).mono ?_)); rintro e w1 ⟨rfl, rfl⟩)
          | (go_at_call 42; (with_reducible refine (HR.out _).mono ?_); rintro e w1 ⟨rfl, rfl⟩)
          | (go_at_call 43; (with_reducible refine (HB.out _).mono ?_); rintro e w1 ⟨rfl, hb1⟩)
          | (go_at_call 21; (with_reducible refine (HRB.out _).mono ?_); rintro e w2 ⟨rfl, hb2⟩))
        all_goals go_ret
        all_goals exact ⟨rfl, bel_trans (bel_trans hb0 hb1) hb2⟩
    · have hpw := pow_wrap K hk8
      have hp0 : ¬ 256 ^ K = 0 := by have : 0 < 256 ^ K := Nat.pow_pos (by decide); omega
      generalize 256 ^ K = P at *
      have hpz : ((P : Int) == 0) = false := by rw [beq_eq_false_iff_ne]; omega
      have hk9 : ((K : Int) == 8) = false := by rw [beq_eq_false_iff_ne]; omega
      rcases hsp with ⟨rfl, a1, a2, HR⟩ | ⟨rfl, rfl, a1⟩ | ⟨rfl, rfl, a1⟩
      all_goals
        go_enter Tryz.func7, Tryz.ntmps7
        go_wp2_with (first
          | (go_at_call 15; refine (begun_any _).mono ?_; rintro e w0 ⟨rfl, hb0⟩)
          | (go_at_call 16; (with_reducible refine (HT.out _).mono ?_); rintro e w1 ⟨rfl, rfl⟩)
          | (go_at_call 41; (first | (with_reducible refine (HN.out _).mono ?_) | (with_reducible refine (HY.out _).mono ?_)); rintro e w1 ⟨rfl, rfl⟩)
          | (go_at_call 42; (with_reducible refine (HR.out _).mono ?_); rintro e w1 ⟨rfl, rfl⟩)
          | (go_at_call 43; (with_reducible refine (HB.out _).mono ?_); rintro e w1 ⟨rfl, hb1⟩)
          | (go_at_call 21; (with_reducible refine (HRB.out _).mono ?_); rintro e w2 ⟨rfl, hb2⟩))
        all_goals go_ret
        all_goals exact ⟨rfl, bel_trans (bel_trans hb0 hb1) hb2⟩
end Go.Proofs.YtdlpapchjjbplaaGreatDoor
