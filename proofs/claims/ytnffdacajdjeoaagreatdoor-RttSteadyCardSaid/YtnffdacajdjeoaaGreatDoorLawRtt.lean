/-
  The laws RttSteady, RttBack, walked.
-/
import Derived.Test.YtnffdacajdjeoaaGreatDoorRttB
import Derived.Test.YtnffdacajdjeoaaGreatDoorPlace
import Derived.Test.YtnffdacajdjeoaaGreatDoorIntR
import Derived.Test.YtnffdacajdjeoaaGreatDoorBegun8
namespace Go.Proofs.YtnffdacajdjeoaaGreatDoor
open Go.ChangeShapes Go.WideShapes Go.ChangeAt Go.RowKit
set_option linter.unusedVariables false
set_option linter.unusedSimpArgs false

theorem kept_bel {S : List Nat} {w0 a b : World} (h : Below w0.heap.size w0 a) (k : Kept S a b) (hs : ∀ x, x ∈ S → w0.heap.size ≤ x) : Below w0.heap.size w0 b := h.trans (k.below h.size hs)
theorem kept_bel1 {C : Nat} {w0 a b : World} (h : Below w0.heap.size w0 a) (k : Kept [C] a b) (hs : w0.heap.size ≤ C) : Below w0.heap.size w0 b := kept_bel h k (fun x hx => by simp at hx; omega)
/-- So many samples of D. -/
def stS (D : Int) (k : Nat) : RttS := if k = 0 then RttS.zero else ⟨true, D, RttS.fade (k - 1) (D / 2), 0⟩
theorem stS_next (D : Int) (h : 0 ≤ D ∧ D ≤ 64000000) (k : Nat) : (stS D k).sample D = stS D (k + 1) := by
  unfold stS
  rw [if_neg (show ¬ k + 1 = 0 by omega)]
  by_cases hk : k = 0
  · subst hk; exact RttS.sample_first D h
  · rw [if_neg hk, RttS.sample_same D _ _ h (RttS.fade_nonneg _ (by omega)), show k + 1 - 1 = (k - 1) + 1 by omega]; rfl
theorem stS_ok (D : Int) (h : 0 ≤ D ∧ D ≤ 64000000) (k : Nat) : (stS D k).ok := by
  induction k with
  | zero => exact RttS.ok_zero
  | succ k ih => rw [← stS_next D h]; exact ih.sample D
theorem stS_rto (D : Int) (k : Nat) (hk : 0 < k) : (stS D k).rto = min (max (D + max (4 * RttS.fade (k - 1) (D / 2)) 1000) 200000) 64000000 := by
  unfold stS; rw [if_neg (by omega)]; rfl
theorem stS_smooth (D : Int) (k : Nat) (hk : 0 < k) : (stS D k).smooth = D ∧ (stS D k).known = true := by
  unfold stS; rw [if_neg (by omega)]; exact ⟨rfl, rfl⟩
theorem steady_smooth (D : Int) (k : Nat) (hk : 0 < k) (C : Nat) (w : World) (h : RttBlk (stS D k) C w) :
    Calls Tryz.prog 42 #[.pointer (some ⟨C, 0, none⟩)] w fun e w' => e = .returned (.tuple #[.int .i64 D, .bool true]) ∧ w = w' := by
  have h1 := rttSmooth_any _ C w h
  rw [(stS_smooth D k hk).1, (stS_smooth D k hk).2, if_pos rfl] at h1
  exact h1
set_option maxHeartbeats 4000000 in
set_option maxRecDepth 100000 in
theorem rttSteady_walk (d : Int) (hd1 : -9223372036854775808 ≤ d) (hd2 : d ≤ 9223372036854775807) (n : Int) (hn1 : -9223372036854775808 ≤ n) (hn2 : n ≤ 9223372036854775807) (w : World) (hT : TabW w) :
    Calls Tryz.prog 13 #[.int .i64 d, .int .i64 n] w fun e w' => e = .returned (.bool true) ∧ Below w.heap.size w w' := by
  have HBG : Hid (∀ W, Below w.heap.size w W → Calls Tryz.prog 18 #[] W fun e w' => e = .returned (.bool true) ∧ Below W.heap.size W w') := Lib.hid (fun W hb => begun8_any W (hT.below hb))
  clear hT
  have key : ∃ D : Int, (0 ≤ D ∧ D ≤ 64000000) ∧ ((d < 0 ∧ -(d + 1).tmod 64000001 = D) ∨ (0 ≤ d ∧ d % 64000001 = D)) := by
    by_cases h : d < 0
    · have e : -(d + 1).tmod 64000001 = (-(d + 1)) % 64000001 := by rw [← Int.neg_tmod, Int.tmod_eq_emod_of_nonneg (by omega)]
      exact ⟨_, by omega, .inl ⟨h, e⟩⟩
    · exact ⟨_, by omega, .inr ⟨by omega, rfl⟩⟩
  obtain ⟨D, hD, key⟩ := key
  obtain ⟨a, ha, ha1, ha2, j, hj, hj2⟩ := mod_at n 60 (by decide)
  obtain ⟨T, hT⟩ : ∃ T : Nat, 1 + j = T := ⟨_, rfl⟩
  have hTi : (1 : Int) + (j : Int) = (T : Int) := by omega
  have hT1 : 1 ≤ T ∧ T ≤ 60 := by omega
  obtain ⟨E1, hE1⟩ : ∃ E, (if D < 200000 then 200000 else D) = E := ⟨_, rfl⟩
  obtain ⟨E2, hE2⟩ : ∃ E, (if 64000000 < E1 then 64000000 else E1) = E := ⟨_, rfl⟩
  obtain ⟨G1, hG1⟩ : ∃ E, (if 64000000 < D + 1000 then 64000000 else D + 1000) = E := ⟨_, rfl⟩
  obtain ⟨G2, hG2⟩ : ∃ E, (if 200000 < G1 then G1 else 200000) = E := ⟨_, rfl⟩
  have hV : Hid (∀ k, 0 < k → E2 ≤ (stS D k).rto) := Lib.hid (fun k hk => by
    rw [stS_rto D k hk, ← hE2, ← hE1]
    have := RttS.fade_nonneg (k - 1) (show 0 ≤ D / 2 by omega)
    split <;> split <;> omega)
  have hV2 : Hid ((stS D (T + 60)).rto = G2) := Lib.hid (by
    rw [stS_rto D _ (by omega), ← hG2, ← hG1]
    have := RttS.fade_end (T + 60 - 1) (by omega) D hD
    split <;> split <;> omega)
  have HN : Hid (∀ k, (stS D k).sample D = stS D (k + 1)) := Lib.hid (stS_next D hD)
  have HO : Hid (∀ k, (stS D k).ok) := Lib.hid (stS_ok D hD)
  obtain ⟨hD0, hD3⟩ := hD
  rcases key with ⟨h0, hm⟩ | ⟨h0, hm⟩
  all_goals
    go_enter Tryz.func13, Tryz.ntmps13
    go_wp2_with (first
      | (go_at_call 18; refine (HBG.out _ (by first | exact Below.refl _ _ | exact bel_alloc _ _ | exact bel_trans (bel_alloc _ _) (bel_alloc _ _))).mono ?_; rintro e w0 ⟨rfl, hb0⟩)
      | (go_at_call 38; refine (rttNew_any _).mono ?_; rintro e w1 ⟨rfl, rfl⟩))
    have HB0 : Hid (RttBlk (stS D 0) w0.heap.size (w0.alloc (.cells (rttCells RttS.zero) 112))) := Lib.hid (BlkIs.new _ _ _)
    have HW0 : Hid (Below w.heap.size w (w0.alloc (.cells (rttCells RttS.zero) 112))) := Lib.hid (bel_trans hb0 (bel_alloc _ _))
    have HC : Hid (w.heap.size ≤ w0.heap.size) := Lib.hid hb0.size
    clear hb0 hm
    generalize w0.alloc (.cells (rttCells RttS.zero) 112) = W1 at *
    generalize w0.heap.size = C at *
    go_loopw [7] (fun i wr => ∃ k : Nat, k ≤ T ∧ i = .int .i64 (k : Int) ∧ Hid (RttBlk (stS D k) C wr) ∧ Hid (Below w.heap.size w wr)) (fun i _ => T - (intOf i).toNat)
    case atStart => exact ⟨0, Nat.zero_le _, rfl, HB0, HW0⟩
    case round =>
      obtain ⟨k, hk, rfl, hbk, hwk⟩ := hrel
      by_cases hlt : k < T
      · obtain ⟨V, hVe⟩ : ∃ V, (stS D (k + 1)).rto = V := ⟨_, rfl⟩
        have hVV := hV.out (k + 1) (by omega)
        rw [hVe] at hVV
        have HS := Lib.hid (rttSample_any (stS D k) (HO.out k) D C wr hbk.out)
        rw [HN.out k] at HS
        have HR : Hid (∀ W, RttBlk (stS D (k + 1)) C W → Calls Tryz.prog 43 #[.pointer (some ⟨C, 0, none⟩)] W fun e w' => e = .returned (.int .i64 V) ∧ ∃ n, w' = W.drewN n) := Lib.hid (fun W hW => by
          have h1 := rttRto_any _ (HO.out (k + 1)) C W hW
          rw [hVe] at h1
          exact h1)
        clear hVe
        go_wp2_with (first
          | (go_at_call 39; (with_reducible refine HS.out.mono ?_); rintro e w1 ⟨rfl, hb1, hk1⟩; have HB1 := Lib.hid hb1; have HW1 := Lib.hid (kept_bel1 hwk.out hk1 HC.out); clear hb1 hk1)
          | (go_at_call 42; (with_reducible refine (steady_smooth D (k + 1) (Nat.succ_pos k) C _ HB1.out).mono ?_); rintro e w2 ⟨rfl, rfl⟩)
          | (go_at_call 43; (with_reducible refine (HR.out _ HB1.out).mono ?_); rintro e w3 ⟨rfl, q, rfl⟩))
        go_roundw
        case rel => exact ⟨k + 1, by omega, by go_num, Lib.hid (BlkIs.drewN HB1.out q), Lib.hid (bel_trans HW1.out (bel_drewN _ _))⟩
        case measure => simp [intOf]; omega
      · obtain rfl : k = T := by omega
        go_wp2
        obtain ⟨wo, rfl⟩ : ∃ wo : World, wo = wr := ⟨_, rfl⟩
        go_loopw [10] (fun i wx => ∃ m : Nat, m ≤ 60 ∧ i = .int .i64 (m : Int) ∧ Hid (RttBlk (stS D (k + m)) C wx) ∧ Hid (Below w.heap.size w wx)) (fun i _ => 60 - (intOf i).toNat)
        case atStart => exact ⟨0, Nat.zero_le _, rfl, hbk, hwk⟩
        case round =>
          obtain ⟨m, hm, rfl, hbm, hwm⟩ := hrel
          by_cases hlt2 : m < 60
          · have HS := Lib.hid (rttSample_any (stS D (k + m)) (HO.out _) D C wr hbm.out)
            rw [HN.out] at HS
            go_wp2_with (go_at_call 39; (with_reducible refine HS.out.mono ?_); rintro e w1 ⟨rfl, hb1, hk1⟩; have HB1 := Lib.hid hb1; have HW1 := Lib.hid (kept_bel1 hwm.out hk1 HC.out); clear hb1 hk1)
            go_roundw
            case rel => exact ⟨m + 1, by omega, by go_num, HB1, HW1⟩
            case measure => simp [intOf]; omega
          · obtain rfl : m = 60 := by omega
            have HR := Lib.hid (rttRto_any _ (HO.out _) C wr hbm.out)
            rw [hV2.out] at HR
            go_wp2_with (go_at_call 43; (with_reducible refine HR.out.mono ?_); rintro e w3 ⟨rfl, q, rfl⟩)
            go_ret
            exact ⟨rfl, bel_trans hwm.out (bel_drewN _ _)⟩
end Go.Proofs.YtnffdacajdjeoaaGreatDoor
