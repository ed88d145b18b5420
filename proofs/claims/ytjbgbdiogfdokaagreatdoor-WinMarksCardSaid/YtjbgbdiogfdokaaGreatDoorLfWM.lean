/-
  What the laid table of the weights says.
  The law WinFire, walked.
  The law WinAvoid, walked.
  The law WinAvoid, walked (its walk).
  The law WinMarks, walked.
-/
import Derived.Test.YtjbgbdiogfdokaaGreatDoorIvalA
import Derived.Test.YtjbgbdiogfdokaaGreatDoorRows
import Derived.Lib.LaidU8
import Derived.Lib.LaidTab
import Derived.MakeChecks
import Derived.OpenShut
import Derived.Test.YtjbgbdiogfdokaaGreatDoorLfW1
import Derived.Test.YtjbgbdiogfdokaaGreatDoorBegun8
import Derived.Test.YtjbgbdiogfdokaaGreatDoorLfHd
namespace Go.Proofs.YtjbgbdiogfdokaaGreatDoor
open Go.ChangeShapes Go.WideShapes Go.ChangeAt Go.RowKit
set_option linter.unusedVariables false
set_option linter.unusedSimpArgs false

theorem tabW_laid {W : World} {l : List (String × DataW Unit)} (h : laidMet Tryz.prog l W) (hm : ("muleteer/ival.weights", (Rows.laid_muleteer_ival_weights : DataW Unit)) ∈ l) : TabW W := by
  obtain ⟨ps, h, _⟩ := h
  obtain ⟨g, t, cs, fuel, p, hg, ht, hvar, hd⟩ := Lib.LaidVars_reads h _ _ hm
  rw [show (Rows.laid_muleteer_ival_weights : DataW Unit) = Lib.tabData .u64 [5, 5, 5, 5, 4, 3, 2, 1] by kernel_rfl] at hd
  have e : Tryz.prog.globalNamed "muleteer/ival.weights" = some 2 := by kernel_rfl
  obtain rfl := Option.some.inj (e.symm.trans hg)
  obtain rfl : t = 209 := (Option.some.inj ((show (Tryz.prog.globals[2]?).map (·.type) = some 209 by kernel_rfl).symm.trans ht)).symm
  have hc := Lib.cells_of_tab Tryz.underlying209 Tryz.underlying26 (by kernel_rfl) (by kernel_rfl) hd
  obtain ⟨cl⟩ := cs
  simp only at hc
  subst hc
  intro i hi
  have h1 := World.var?_cell e hvar i
  rw [h1]
  obtain rfl | rfl | rfl | rfl | rfl | rfl | rfl | rfl : i = 0 ∨ i = 1 ∨ i = 2 ∨ i = 3 ∨ i = 4 ∨ i = 5 ∨ i = 6 ∨ i = 7 := by omega
  all_goals rfl
end Go.Proofs.YtjbgbdiogfdokaaGreatDoor

namespace Go.Proofs.YtjbgbdiogfdokaaGreatDoor
open Go.ChangeShapes Go.WideShapes Go.ChangeAt Go.RowKit
set_option linter.unusedVariables false
set_option linter.unusedSimpArgs false

theorem kb2 {w W W' : World} {C D : Nat} (h : Below w.heap.size w W) (k : Kept [C, D] W W') (hC : w.heap.size ≤ C) (hD : w.heap.size ≤ D) : Below w.heap.size w W' := h.trans (k.below h.size (by intro x hx; simp at hx; omega))
theorem mod_at9 (x m : Int) (hm : 0 < m) : ∃ a, x.tmod m = a ∧ -m < a ∧ a < m ∧ ∃ j : Nat, (a + m).tmod m = (j : Int) ∧ (j : Int) < m := by
  refine ⟨x.tmod m, rfl, ?_⟩
  have h : -m < x.tmod m ∧ x.tmod m < m := by
    by_cases h : 0 ≤ x
    · rw [Int.tmod_eq_emod_of_nonneg h]
      have := Int.emod_nonneg x (show m ≠ 0 by omega)
      have := Int.emod_lt_of_pos x hm
      omega
    · have e : x.tmod m = -((-x).tmod m) := by rw [Int.neg_tmod]; omega
      rw [e, Int.tmod_eq_emod_of_nonneg (by omega)]
      have := Int.emod_nonneg (-x) (show m ≠ 0 by omega)
      have := Int.emod_lt_of_pos (-x) hm
      omega
  refine ⟨h.1, h.2, ((x.tmod m + m).tmod m).toNat, ?_, ?_⟩
  · have : 0 ≤ (x.tmod m + m).tmod m := Int.tmod_nonneg _ (by omega)
    omega
  · have h1 : 0 ≤ (x.tmod m + m).tmod m := Int.tmod_nonneg _ (by omega)
    have h2 : (x.tmod m + m).tmod m < m := by
      rw [Int.tmod_eq_emod_of_nonneg (by omega)]
      exact Int.emod_lt_of_pos _ hm
    omega
/-- Behind the first one that was got. -/
def WinS.four : WinS := ⟨4, 1000000, 0, 0, 1, true, 0, false, 0, false⟩
theorem winFirst (X : Int) (hX : 0 ≤ X) (pG : Option Addr) (cG : Nat) (C D : Nat) (w : World) (h : WinAt (WinS.init.sent 1 (M.winDue 0 RttS.zero.rto)) RttS.zero C D w) :
    Calls Tryz.prog 16 #[.pointer (some ⟨C, 0, none⟩), .agg #[.slice pG 1 cG, .slice none 0 0, .slice none 0 0, .int .i64 0, .int .i64 X], .int .i64 0] w fun e w' => e = .returned (.tuple #[]) ∧ WinAt WinS.four (RttS.zero.sample X) C D w' ∧ Kept [C, D] w w' := by
  have h1 := winHear_any (WinS.init.sent 1 (M.winDue 0 RttS.zero.rto)) ⟨4, 1000000, 0, 0, 1, true, 0, false, 3000000, true⟩ ⟨by decide, by decide, by decide, by decide, by decide, by decide⟩ RttS.zero (RttS.zero.sample X) RttS.ok_zero 1 0 (by decide) (by decide) ⟨by decide, by decide, by decide, by decide, by decide, by decide⟩ (by decide) rfl ⟨by decide, by decide, by decide, by decide, by decide, by decide⟩
    pG none cG 0 (.slice none 0 0) 0 X 0 (by decide) (by unfold RttS.heard; rw [if_pos hX]) false C D w h (.inl ⟨rfl, rfl, by decide⟩)
  exact h1
theorem winFire_ok (s : WinS) (hs : s.ok) : s.fire.ok := by
  obtain ⟨⟨a0, a1⟩, ⟨b0, b1⟩, _, _, e, f⟩ := hs
  exact ⟨(by decide : (1 : Int) ≤ 1 ∧ (1 : Int) ≤ 1099511627776), by unfold WinS.fire WinS.halve WinS.stop; simp only; omega, (by decide : (0 : Int) ≤ 0 ∧ (0 : Int) ≤ 1099511627776), (by decide : (0 : Int) ≤ 0 ∧ (0 : Int) ≤ 1099511627776), e, e⟩
set_option maxHeartbeats 16000000 in
set_option maxRecDepth 100000 in
theorem winFire_walk (n d : Int) (n1 : -9223372036854775808 ≤ n) (n2 : n ≤ 9223372036854775807) (d1 : -9223372036854775808 ≤ d) (d2 : d ≤ 9223372036854775807) (w : World) (hT : TabW w) :
    Calls Tryz.prog 5 #[.int .i64 n, .int .i64 d] w fun e w' => e = .returned (.bool true) ∧ Below w.heap.size w w' := by
  have HBG : Hid (∀ W, Below w.heap.size w W → Calls Tryz.prog 11 #[] W fun e w' => e = .returned (.bool true) ∧ Below W.heap.size W w') := Lib.hid (fun W hb => begun8_any W (hT.below hb))
  clear hT
  obtain ⟨a, ha, a1, a2, J, hJ, hJ3⟩ := mod_at9 n 12 (by decide)
  obtain ⟨X, hX⟩ : ∃ X, max 0 (min d 1099511627776) = X := ⟨_, rfl⟩
  have hX0 : 0 ≤ X ∧ X ≤ 1099511627776 := by omega
  obtain ⟨hX2, hX3⟩ := hX0
  have HS0 : Hid (∀ (C D : Nat) W, WinAt WinS.init RttS.zero C D W → Calls Tryz.prog 13 #[.pointer (some ⟨C, 0, none⟩), .int .u64 1, .int .i64 0] W fun e w' => e = .returned (.bool true) ∧ WinAt (WinS.init.sent 1 (M.winDue 0 RttS.zero.rto)) RttS.zero C D w' ∧ Kept [C] W w') := Lib.hid (fun C D W h => winSent_yes WinS.init WinS.ok_init (by decide) RttS.zero RttS.ok_zero 1 (by decide) 0 (by decide) C D W h)
  have HH0 := Lib.hid (fun (pG : Option Addr) (cG C D : Nat) W (h : WinAt (WinS.init.sent 1 (M.winDue 0 RttS.zero.rto)) RttS.zero C D W) => winFirst X hX2 pG cG C D W h)
  have HSM := Lib.hid (fun (C : Nat) W (h : RttBlk RttS.zero C W) => rttSample_any RttS.zero RttS.ok_zero X C W h)
  have htok : (RttS.zero.sample X).ok := RttS.ok_zero.sample X
  have HRT := Lib.hid (fun (C : Nat) W (h : RttBlk (RttS.zero.sample X) C W) => rttRto_any (RttS.zero.sample X) htok C W h)
  have hr0 := htok.rto
  generalize RttS.zero.sample X = t0 at *
  obtain ⟨R, hR⟩ : ∃ R, t0.rto = R := ⟨_, rfl⟩
  rw [hR] at HRT hr0
  obtain ⟨r0, r1⟩ := hr0
  go_enter Tryz.func5, Tryz.ntmps5
  go_upto_region 6 with (first
    | (go_at_call 11; refine (HBG.out _ (Below.refl _ _)).mono ?_; rintro e w0 ⟨rfl, hb0⟩)
    | (go_at_call 12; refine (winNew_any _).mono ?_; rintro e w1 ⟨C, D, rfl, hwin, hc1, hd1, hb1⟩))
  have hbx := BlkIs.new #[.slice none 0 0, .slice none 0 0, .slice none 0 0, .int .i64 0, .int .i64 X] 31 w1
  have HW2 : Hid (WinAt WinS.init RttS.zero C D (w1.alloc (.cells #[.slice none 0 0, .slice none 0 0, .slice none 0 0, .int .i64 0, .int .i64 X] 31))) := Lib.hid (hwin.below (bel_alloc _ _))
  have HB2 : Hid (Below w.heap.size w (w1.alloc (.cells #[.slice none 0 0, .slice none 0 0, .slice none 0 0, .int .i64 0, .int .i64 X] 31))) := Lib.hid (bel_trans (bel_trans hb0 hb1) (bel_alloc _ _))
  have HNE : Hid (w.heap.size ≤ C ∧ w.heap.size ≤ D ∧ C < w1.heap.size ∧ D < w1.heap.size) := Lib.hid ⟨Nat.le_trans hb0.size hc1, Nat.le_trans hb0.size hd1, hwin.win.lt, BlkIs.lt hwin.rtt⟩
  have HBX := Lib.hid hbx
  clear hwin hc1 hd1 hb0 hb1 hbx
  generalize w1.alloc (.cells #[.slice none 0 0, .slice none 0 0, .slice none 0 0, .int .i64 0, .int .i64 X] 31) = w2 at *
  generalize w1.heap.size = B at *
  go_upto_region 8 with (go_at_call 13; (with_reducible refine (HS0.out C D w2 HW2.out).mono ?_); rintro e w3 ⟨rfl, hw3, hk3⟩; have k3 : BlkIs #[.slice none 0 0, .slice none 0 0, .slice none 0 0, .int .i64 0, .int .i64 X] 31 B w3 := BlkIs.kept HBX.out hk3 (by have := HNE.out; simp; omega); have e0 : (w3.alloc (.cells #[.int .u64 1] 26)).cell? ⟨B, 0, none⟩ = some (.slice none 0 0) := BlkIs.cell (k3.alloc _) 0; have ef := BlkIs.free (k3.alloc (.cells #[.int .u64 1] 26)) 0)
  have hBC : B ≠ C := by have := HNE.out; omega
  have hBD : B ≠ D := by have := HNE.out; omega
  have hCB : C < w3.heap.size := hw3.win.lt
  have k4 := (k3.alloc (.cells #[.int .u64 1] 26)).set 0 (.slice (some ⟨w3.heap.size, 0, none⟩) 1 1)
  have HW4 : Hid (WinAt (WinS.init.sent 1 (M.winDue 0 RttS.zero.rto)) RttS.zero C D ((w3.alloc (.cells #[.int .u64 1] 26)).setCell ⟨B, 0, none⟩ (.slice (some ⟨w3.heap.size, 0, none⟩) 1 1))) := Lib.hid (by
    have h1 := hw3.below (bel_alloc w3 (.cells #[.int .u64 1] 26))
    exact ⟨BlkIs.far h1.win hBC.symm _, BlkIs.far h1.rtt hBD.symm _, h1.ne⟩)
  have HB4 : Hid (Below w.heap.size w ((w3.alloc (.cells #[.int .u64 1] 26)).setCell ⟨B, 0, none⟩ (.slice (some ⟨w3.heap.size, 0, none⟩) 1 1))) := Lib.hid ((bel_trans (kb2 HB2.out (hk3.more (by simp)) HNE.out.1 HNE.out.2.1) (bel_alloc _ _)).setCell (p := ⟨B, 0, none⟩) (by have := HNE.out; simp; omega) _)
  clear e0 ef hw3 hk3 k3 HW2 HB2 HBX
  generalize (w3.alloc (.cells #[.int .u64 1] 26)).setCell ⟨B, 0, none⟩ (.slice (some ⟨w3.heap.size, 0, none⟩) 1 1) = w4 at *
  generalize w3.heap.size = Rb at *
  have x0 : w4.cell? ⟨B, 0, none⟩ = some (.slice (some ⟨Rb, 0, none⟩) 1 1) := BlkIs.cell k4 0
  have x1 : w4.cell? ⟨B, 1, none⟩ = some (.slice none 0 0) := BlkIs.cell k4 1
  have x2 : w4.cell? ⟨B, 2, none⟩ = some (.slice none 0 0) := BlkIs.cell k4 2
  have x3 : w4.cell? ⟨B, 3, none⟩ = some (.int .i64 0) := BlkIs.cell k4 3
  have x4 : w4.cell? ⟨B, 4, none⟩ = some (.int .i64 X) := BlkIs.cell k4 4
  go_upto_region 10 with (first
    | (go_at_call 16; (with_reducible refine (HH0.out (some ⟨Rb, 0, none⟩) 1 C D w4 HW4.out).mono ?_); rintro e w5 ⟨rfl, hw5, hk5⟩)
    | (go_at_call 20; refine (rttNew_any _).mono ?_; rintro e w6 ⟨rfl, rfl⟩))
  have k5 := BlkIs.kept k4 hk5 (by simp; omega)
  have HR6 : Hid (RttBlk RttS.zero w5.heap.size (w5.alloc (.cells (rttCells RttS.zero) 86))) := Lib.hid (BlkIs.new _ _ _)
  have HW6 : Hid (WinAt WinS.four t0 C D (w5.alloc (.cells (rttCells RttS.zero) 86))) := Lib.hid (hw5.below (bel_alloc _ _))
  have hx4 : (w5.alloc (.cells (rttCells RttS.zero) 86)).cell? ⟨B, 4, none⟩ = some (.int .i64 X) := BlkIs.cell (k5.alloc _) 4
  have HB6 : Hid (Below w.heap.size w (w5.alloc (.cells (rttCells RttS.zero) 86))) := Lib.hid (bel_trans (kb2 HB4.out hk5 HNE.out.1 HNE.out.2.1) (bel_alloc _ _))
  have HE : Hid (C < w5.heap.size ∧ D < w5.heap.size ∧ w.heap.size ≤ w5.heap.size) := Lib.hid ⟨hw5.win.lt, BlkIs.lt hw5.rtt, (kb2 HB4.out hk5 HNE.out.1 HNE.out.2.1).size⟩
  clear x0 x1 x2 x3 x4 hw5 hk5 k4 k5 HW4 HB4
  generalize w5.alloc (.cells (rttCells RttS.zero) 86) = w6 at *
  generalize w5.heap.size = E at *
  go_upto_region 12 with (first
    | (go_at_call 21; (with_reducible refine (HSM.out E w6 HR6.out).mono ?_); rintro e w7 ⟨rfl, hr7, hk7⟩)
    | (go_at_call 22; (with_reducible refine (HRT.out E w7 hr7).mono ?_); rintro e w8 ⟨rfl, q8, rfl⟩))
  have HW7 : Hid (WinAt WinS.four t0 C D (w7.drewN q8)) := Lib.hid ((HW6.out.kept hk7 (by have := HE.out; simp; omega) (by have := HE.out; simp; omega)).drewN q8)
  have HB7 : Hid (Below w.heap.size w (w7.drewN q8)) := Lib.hid (bel_trans (HB6.out.trans (hk7.below HB6.out.size (by intro x hx; have := HE.out; simp at hx; omega))) (bel_drewN _ _))
  clear hr7 hk7 hx4 HW6 HB6 HR6 HSM HRT HH0 HS0
  generalize w7.drewN q8 = w7' at *
  have HT0 : Hid (t0.ok ∧ t0.rto = R) := Lib.hid ⟨htok, hR⟩
  clear hX htok hR
  go_wp2
  go_loopw [9, 10, 11] (fun nw wt i wr => ∃ (k : Nat) (s : WinS) (t : RttS) (T Q : Int), i = .int .i64 (k : Int) ∧ nw = .int .i64 T ∧ wt = .int .i64 Q ∧ k ≤ 1 + J ∧ (0 ≤ T ∧ T ≤ 64000000 * (k : Int)) ∧ (200000 ≤ Q ∧ Q ≤ 64000000) ∧ Hid (s.ok ∧ t.ok ∧ t.rto = Q ∧ s.pipe = 0 ∧ s.runs = false) ∧ Hid (WinAt s t C D wr) ∧ Hid (Below w.heap.size w wr)) (fun _ _ i _ => 1 + J - (intOf i).toNat)
  case atStart => exact ⟨0, WinS.four, t0, 0, R, rfl, rfl, rfl, Nat.zero_le _, ⟨by decide, by decide⟩, ⟨r0, r1⟩, Lib.hid ⟨⟨by decide, by decide, by decide, by decide, by decide, by decide⟩, HT0.out.1, HT0.out.2, rfl, rfl⟩, HW7, HB7⟩
  case round =>
    obtain ⟨k, s, t, T, Q, rfl, rfl, rfl, hk, ⟨u1, u2⟩, ⟨q1, q2⟩, hs, hw, hb⟩ := hrel
    by_cases hkJ : k < 1 + J
    · obtain ⟨so, tok, hto, hpipe, hruns⟩ := hs.out
      have hdue : M.winDue T t.rto = T + Q := by unfold M.winDue; rw [hto]; omega
      obtain ⟨z, hz⟩ : ∃ z, s.sent (2 + k) (T + Q) = z := ⟨_, rfl⟩
      have hz2 : z = { s with pipe := s.pipe + 1, ln := 2 + k, lk := true, due := T + Q, runs := true } := by rw [← hz]; unfold WinS.sent; rw [if_neg (by simp [hruns])]
      have HS : Hid (Calls Tryz.prog 13 #[.pointer (some ⟨C, 0, none⟩), .int .u64 (2 + (k : Int)), .int .i64 T] wr fun e w' => e = .returned (.bool true) ∧ WinAt z t C D w' ∧ Kept [C] wr w') := Lib.hid (by
        have h1 := winSent_yes s so (by rw [hpipe]; have := so.b0; omega) t tok (2 + k) (by omega) T (by omega) C D wr hw.out
        rw [hdue, hz] at h1
        rw [show ((2 + k : Nat) : Int) = 2 + (k : Int) by omega] at h1
        exact h1)
      have zo : z.ok := by
        obtain ⟨g0, g1, g2, g3, g4, g5⟩ := so
        rw [hz2]
        exact ⟨g0, g1, by simp only; rw [hpipe]; decide, g3, by simp only; omega, g5⟩
      have HD : Hid (∀ W, WinAt z t C D W → Calls Tryz.prog 23 #[.pointer (some ⟨C, 0, none⟩)] W fun e w' => e = .returned (.tuple #[.int .i64 (T + Q), .bool true]) ∧ ∃ n, w' = W.drewN n) := Lib.hid (fun W hW => by
        have h1 := winDue_any z t C D W hW
        rw [show z.due = T + Q by rw [hz2], show z.runs = true by rw [hz2]] at h1
        exact h1)
      have HF1 : Hid (∀ W, WinAt z t C D W → Calls Tryz.prog 24 #[.pointer (some ⟨C, 0, none⟩), .int .i64 (T + Q - 1)] W fun e w' => e = .returned (.bool false) ∧ ∃ n, w' = W.drewN n) := Lib.hid (fun W hW => winFire_no z t (T + Q - 1) (.inr (by rw [hz2]; simp only; omega)) C D W hW)
      have HF2 : Hid (∀ W, WinAt z t C D W → Calls Tryz.prog 24 #[.pointer (some ⟨C, 0, none⟩), .int .i64 (T + Q)] W fun e w' => e = .returned (.bool true) ∧ WinAt z.fire t.back C D w' ∧ Kept [C, D] W w') := Lib.hid (fun W hW => winFire_yes z zo t tok (T + Q) (by omega) (by rw [hz2]) (by rw [hz2]; simp only; omega) C D W hW)
      have HCW : Hid (∀ W, WinAt z.fire t.back C D W → Calls Tryz.prog 14 #[.pointer (some ⟨C, 0, none⟩)] W fun e w' => e = .returned (.int .i64 1) ∧ W = w') := Lib.hid (fun W hW => by
        have h1 := winCwnd_any z.fire t.back C D W hW
        rw [show z.fire.cwnd = 1 from rfl] at h1
        exact h1)
      have HPI : Hid (∀ W, WinAt z.fire t.back C D W → Calls Tryz.prog 17 #[.pointer (some ⟨C, 0, none⟩)] W fun e w' => e = .returned (.int .i64 0) ∧ W = w') := Lib.hid (fun W hW => by
        have h1 := winPipe_any z.fire t.back C D W hW
        rw [show z.fire.pipe = 0 from rfl] at h1
        exact h1)
      have HN : Hid (z.fire.ok ∧ t.back.ok ∧ t.back.rto = min (2 * Q) 64000000 ∧ z.fire.pipe = 0 ∧ z.fire.runs = false) := Lib.hid ⟨winFire_ok z zo, tok.back, by rw [RttS.rto_back tok, hto]; rfl, rfl, rfl⟩
      have hdk : decide ((k : Int) < 1 + (J : Int)) = true := decide_eq_true (by omega)
      clear hz hz2 zo so tok hto hpipe hruns hdue hs
      go_upto_region 17 with (go_at_call 13; (with_reducible refine HS.out.mono ?_); rintro e w8 ⟨rfl, h8, k8⟩)
      go_upto_region 18 with (go_at_call 23; (with_reducible refine (HD.out _ h8).mono ?_); rintro e wd ⟨rfl, j1, rfl⟩)
      have h9 := h8.drewN j1
      have hb9 : Below w.heap.size w (w8.drewN j1) := bel_trans (kb2 hb.out (k8.more (by simp)) HNE.out.1 HNE.out.2.1) (bel_drewN _ _)
      clear h8 k8 hw hb HS HD
      generalize w8.drewN j1 = w9 at *
      have HF3 : Hid (Calls Tryz.prog 24 #[.pointer (some ⟨C, 0, none⟩), .int .i64 (T + Q - 1)] w9 fun e w' => e = .returned (.bool false) ∧ ∃ n, w' = w9.drewN n) := Lib.hid (HF1.out _ h9)
      have HF4 : Hid (∀ n, Calls Tryz.prog 24 #[.pointer (some ⟨C, 0, none⟩), .int .i64 (T + Q)] (w9.drewN n) fun e w' => e = .returned (.bool true) ∧ WinAt z.fire t.back C D w' ∧ Kept [C, D] (w9.drewN n) w') := Lib.hid (fun n => HF2.out _ (h9.drewN n))
      clear HF1 HF2 h9
      go_upto_region 20 with (first
        | (go_at_call 24; (with_reducible refine HF3.out.mono ?_); rintro e wf ⟨rfl, j2, rfl⟩; clear HF3)
        | (go_at_call 24; (with_reducible refine (HF4.out _).mono ?_); rintro e wi ⟨rfl, h11, k11⟩; clear HF4)
        | (go_at_call 14; (with_reducible refine (HCW.out _ h11).mono ?_); rintro e wg ⟨rfl, rfl⟩)
        | (go_at_call 17; (with_reducible refine (HPI.out _ h11).mono ?_); rintro e wg ⟨rfl, rfl⟩))
      have HB9 : Hid (Below w.heap.size w wi) := Lib.hid (kb2 (bel_trans hb9 (bel_drewN w9 j2)) k11 HNE.out.1 HNE.out.2.1)
      have HWI := Lib.hid h11
      clear h11 k11 hb9 HCW HPI
      go_wp2
      refine ⟨⟨k + 1, z.fire, t.back, T + Q, min (2 * Q) 64000000, by go_num, rfl, rfl, by omega, ⟨by omega, by omega⟩, ⟨by omega, by omega⟩, HN, HWI, HB9⟩, ?_⟩
      simp [intOf]; omega
    · have hdk : decide ((k : Int) < 1 + (J : Int)) = false := decide_eq_false (by omega)
      go_wp2
      go_ret
      exact ⟨rfl, hb.out⟩
end Go.Proofs.YtjbgbdiogfdokaaGreatDoor

namespace Go.Proofs.YtjbgbdiogfdokaaGreatDoor
open Go.ChangeShapes Go.WideShapes Go.ChangeAt Go.RowKit
set_option linter.unusedVariables false
set_option linter.unusedSimpArgs false

theorem wok {c S p k : Int} {ln hn : Nat} {lk hk : Bool} {due : Int} {runs : Bool} (h0 : 1 ≤ c ∧ c ≤ 1000000) (h1 : 1 ≤ S ∧ S ≤ 1000000) (h2 : 0 ≤ p ∧ p ≤ 1000000) (h3 : 0 ≤ k ∧ k ≤ 1000000) (h4 : ln < 1000000) (h5 : hn < 1000000) : (⟨c, S, p, k, ln, lk, hn, hk, due, runs⟩ : WinS).ok :=
  ⟨by simp only; omega, by simp only; omega, by simp only; omega, by simp only; omega, by simp only; omega, by simp only; omega⟩
/-- Ahead of any loss. -/
def WinS.base (c : Int) : WinS := ⟨c, 1000000, 0, 0, 0, false, 0, false, 0, false⟩
theorem base_ok (c : Int) (h1 : 1 ≤ c) (h2 : c ≤ 1000) : (WinS.base c).ok := wok ⟨h1, by omega⟩ (by decide) (by decide) (by decide) (by decide) (by decide)
/-- One is got, nothing is on its way. -/
theorem hearBase (c : Int) (h1 : 1 ≤ c) (h2 : c ≤ 900) (p : Option Addr) (cG C D : Nat) (w : World) (h : WinAt (WinS.base c) RttS.zero C D w) :
    Calls Tryz.prog 16 #[.pointer (some ⟨C, 0, none⟩), .agg #[.slice p 1 cG, .slice none 0 0, .slice none 0 0, .int .i64 0, .int .i64 (-1)], .int .i64 0] w fun e w' => e = .returned (.tuple #[]) ∧ WinAt (WinS.base (c + 1)) RttS.zero C D w' ∧ Kept [C, D] w w' := by
  have hl : (WinS.base c).less 1 0 = WinS.base c := rfl
  have hf : (WinS.base c).fast 1 = 1 := by
    show max (min 1 (1000000 - c)) 0 = 1
    omega
  have hg : (WinS.base c).grow 1 = WinS.base (c + 1) := by
    unfold WinS.grow
    rw [hf]
    exact if_pos (show (WinS.base c).count + (1 - 1) < (WinS.base c).cwnd + 1 from (show (0 : Int) + (1 - 1) < c + 1 by omega))
  exact winHear_any (WinS.base c) (WinS.base (c + 1)) (base_ok c h1 (by omega)) RttS.zero RttS.zero RttS.ok_zero 1 0 (by decide) (by decide) (by rw [hl]; exact base_ok c h1 (by omega))
    (by rw [hl, show ((1 : Nat) : Int) = 1 from rfl, hf]; show (0 : Int) + (1 - 1) ≤ 2 * (c + 1); omega) (by rw [hl]; exact hg) (base_ok _ (by omega) (by omega)) p none cG 0 (.slice none 0 0) 0 (-1) 0 (by decide) rfl false C D w h (.inl ⟨rfl, rfl, by decide⟩)
/-- Behind a halving: so wide, so many of a window got. -/
def WinS.av (H c k : Int) : WinS := ⟨c, H, 0, k, 50, true, 50, true, 0, false⟩
theorem av_ok (H c k : Int) (h1 : 1 ≤ H) (h2 : H ≤ 1000) (h3 : H ≤ c) (h4 : c ≤ 1000) (h5 : 0 ≤ k) (h6 : k < c) : (WinS.av H c k).ok := wok (by omega) (by omega) (by decide) (by omega) (by decide) (by decide)
def avC (c k : Int) : Int := if k + 1 < c then c else c + 1
def avK (c k : Int) : Int := if k + 1 < c then k + 1 else k + 1 - c
theorem hearAv (H c k : Int) (h1 : 1 ≤ H) (h2 : H ≤ 500) (h3 : H ≤ c) (h4 : c ≤ 900) (h5 : 0 ≤ k) (h6 : k < c) (p : Option Addr) (cG C D : Nat) (w : World) (h : WinAt (WinS.av H c k) RttS.zero C D w) :
    Calls Tryz.prog 16 #[.pointer (some ⟨C, 0, none⟩), .agg #[.slice p 1 cG, .slice none 0 0, .slice none 0 0, .int .i64 0, .int .i64 (-1)], .int .i64 0] w fun e w' => e = .returned (.tuple #[]) ∧ WinAt (WinS.av H (avC c k) (avK c k)) RttS.zero C D w' ∧ Kept [C, D] w w' := by
  have hl : (WinS.av H c k).less 1 0 = WinS.av H c k := rfl
  have hf : (WinS.av H c k).fast 1 = 0 := by
    show max (min 1 (H - c)) 0 = 0
    omega
  have hg : (WinS.av H c k).grow 1 = WinS.av H (avC c k) (avK c k) := by
    unfold WinS.grow avC avK
    rw [hf]
    by_cases hlt : k + 1 < c
    · rw [if_pos hlt, if_pos hlt]
      refine (if_pos (show (WinS.av H c k).count + (1 - 0) < (WinS.av H c k).cwnd + 0 from (show k + (1 - 0) < c + 0 by omega))).trans ?_
      show (⟨c + 0, H, 0, k + (1 - 0), 50, true, 50, true, 0, false⟩ : WinS) = ⟨c, H, 0, k + 1, 50, true, 50, true, 0, false⟩
      congr 1 <;> omega
    · rw [if_neg hlt, if_neg hlt]
      refine (if_neg (show ¬ (WinS.av H c k).count + (1 - 0) < (WinS.av H c k).cwnd + 0 from (show ¬ k + (1 - 0) < c + 0 by omega))).trans ?_
      show (⟨c + 0 + 1, H, 0, k + (1 - 0) - (c + 0), 50, true, 50, true, 0, false⟩ : WinS) = ⟨c + 1, H, 0, k + 1 - c, 50, true, 50, true, 0, false⟩
      congr 1 <;> omega
  have ho : (WinS.av H (avC c k) (avK c k)).ok := by
    unfold avC avK
    split
    · exact av_ok _ _ _ h1 (by omega) (by omega) (by omega) (by omega) (by omega)
    · exact av_ok _ _ _ h1 (by omega) (by omega) (by omega) (by omega) (by omega)
  exact winHear_any (WinS.av H c k) _ (av_ok H c k h1 (by omega) h3 (by omega) h5 h6) RttS.zero RttS.zero RttS.ok_zero 1 0 (by decide) (by decide) (by rw [hl]; exact av_ok H c k h1 (by omega) h3 (by omega) h5 h6)
    (by rw [hl, show ((1 : Nat) : Int) = 1 from rfl, hf]; show k + (1 - 0) ≤ 2 * (c + 0); omega) (by rw [hl]; exact hg) ho p none cG 0 (.slice none 0 0) 0 (-1) 0 (by decide) rfl false C D w h (.inl ⟨rfl, rfl, by decide⟩)
/-- The first loss. -/
theorem hearLoss (c : Int) (h1 : 2 ≤ c) (h2 : c ≤ 900) (p : Option Addr) (cL C D : Nat) (w : World) (h : WinAt ((WinS.base c).sent 50 (M.winDue 0 RttS.zero.rto)) RttS.zero C D w) :
    Calls Tryz.prog 16 #[.pointer (some ⟨C, 0, none⟩), .agg #[.slice none 0 0, .slice none 0 0, .slice p 1 cL, .int .i64 0, .int .i64 (-1)], .int .i64 0] w fun e w' => e = .returned (.tuple #[]) ∧ WinAt (WinS.av (c / 2) (c / 2) 0) RttS.zero C D w' ∧ Kept [C, D] w w' := by
  obtain ⟨z, hz⟩ : ∃ z : WinS, (⟨c, 1000000, 0, 0, 50, true, 0, false, 3000000, true⟩ : WinS) = z := ⟨_, rfl⟩
  have zo : z.ok := by rw [← hz]; exact ⟨⟨show 1 ≤ c by omega, show c ≤ 1099511627776 by omega⟩, (by decide : (1 : Int) ≤ 1000000 ∧ (1000000 : Int) ≤ 1099511627776), (by decide : (0 : Int) ≤ 0 ∧ (0 : Int) ≤ 1099511627776), (by decide : (0 : Int) ≤ 0 ∧ (0 : Int) ≤ 1099511627776), (by decide : (50 : Nat) < 18446744073709551616), (by decide : (0 : Nat) < 18446744073709551616)⟩
  have hl : ((WinS.base c).sent 50 (M.winDue 0 RttS.zero.rto)).less 0 1 = z := by rw [← hz]; rfl
  have hf : z.fast 0 = 0 := by
    rw [← hz]
    show max (min 0 (1000000 - c)) 0 = 0
    omega
  have hg : z.grow 0 = z := by
    unfold WinS.grow
    rw [hf, ← hz, if_pos (show (0 : Int) + (0 - 0) < c + 0 by omega)]
    show (⟨c + 0, 1000000, 0, 0 + (0 - 0), 50, true, 0, false, 3000000, true⟩ : WinS) = _
    congr 1
    omega
  have so : ((WinS.base c).sent 50 (M.winDue 0 RttS.zero.rto)).ok := ⟨⟨show 1 ≤ c by omega, show c ≤ 1099511627776 by omega⟩, (by decide : (1 : Int) ≤ 1000000 ∧ (1000000 : Int) ≤ 1099511627776), (by decide : (0 : Int) ≤ 1 ∧ (1 : Int) ≤ 1099511627776), (by decide : (0 : Int) ≤ 0 ∧ (0 : Int) ≤ 1099511627776), (by decide : (50 : Nat) < 18446744073709551616), (by decide : (0 : Nat) < 18446744073709551616)⟩
  have h9 := winHear_any ((WinS.base c).sent 50 (M.winDue 0 RttS.zero.rto)) z so RttS.zero RttS.zero RttS.ok_zero 0 1 (by decide) (by decide) (by rw [hl]; exact zo)
    (by rw [hl, show ((0 : Nat) : Int) = 0 from rfl, hf, ← hz]; show (0 : Int) + (0 - 0) ≤ 2 * (c + 0); omega) (by rw [hl]; exact hg) zo none p 0 cL (.slice none 0 0) 0 (-1) 0 (by decide) rfl true C D w h
    (.inr ⟨.inl (by decide), fun W hW hK => isNews_first z (by rw [← hz]) _ _ _ _ _ RttS.zero C D W hW⟩)
  have he : (z.wrong true).clock (M.winDue 0 RttS.zero.rto) = WinS.av (c / 2) (c / 2) 0 := by
    rw [← hz]
    show (⟨max (c / 2) 1, max (c / 2) 1, 0, 0, 50, true, 50, true, 0, false⟩ : WinS) = ⟨c / 2, c / 2, 0, 0, 50, true, 50, true, 0, false⟩
    congr 1 <;> omega
  rw [he] at h9
  exact h9
end Go.Proofs.YtjbgbdiogfdokaaGreatDoor

namespace Go.Proofs.YtjbgbdiogfdokaaGreatDoor
open Go.ChangeShapes Go.WideShapes Go.ChangeAt Go.RowKit
set_option linter.unusedVariables false
set_option linter.unusedSimpArgs false

/-- How far the window is from K yet, read off the world. -/
def cwM (C K : Nat) (w : World) : Nat := match w.cell? ⟨C, 0, none⟩ with
  | some v => K - (intOf v).toNat
  | none => 0
theorem cwM_at {C K : Nat} {w : World} {z : Int} (h : w.cell? ⟨C, 0, none⟩ = some (.int .i64 z)) : cwM C K w = K - z.toNat := by unfold cwM; rw [h]; rfl
theorem heardOne (w : World) : Calls Tryz.prog 15 #[.agg #[.int .i64 0, .int .i64 1, .int .i64 0, .int .i64 0, .int .i64 0, .int .u64 1, .int .i64 (-1), .int .i64 0]] w fun e w' => ∃ p c, e = .returned (.tuple #[.agg #[.slice p 1 c, .slice none 0 0, .slice none 0 0, .int .i64 0, .int .i64 (-1)], .agg #[.slice p 1 c, .slice none 0 0, .slice none 0 0, .int .i64 0, .int .i64 (-1)]]) ∧ Below w.heap.size w w' :=
  heardG_any 1 (by decide) 1 (by decide) (-1) (by decide) (by decide) (-1) (by decide) w
set_option maxHeartbeats 16000000 in
set_option maxRecDepth 100000 in
theorem winAvoid_walk (n m : Int) (n1 : -9223372036854775808 ≤ n) (n2 : n ≤ 9223372036854775807) (m1 : -9223372036854775808 ≤ m) (m2 : m ≤ 9223372036854775807) (w : World) (hT : TabW w) :
    Calls Tryz.prog 9 #[.int .i64 n, .int .i64 m] w fun e w' => e = .returned (.bool true) ∧ Below w.heap.size w w' := by
  have HBG : Hid (∀ W, Below w.heap.size w W → Calls Tryz.prog 11 #[] W fun e w' => e = .returned (.bool true) ∧ Below W.heap.size W w') := Lib.hid (fun W hb => begun8_any W (hT.below hb))
  clear hT
  obtain ⟨a, ha, a1, a2, J, hJ, hJ3⟩ := mod_at9 n 20 (by decide)
  obtain ⟨b, hb, b1, b2, Mo, hM, hM3⟩ := mod_at9 m 100 (by decide)
  go_enter Tryz.func9, Tryz.ntmps9
  go_upto_region 6 with (first
    | (go_at_call 11; refine (HBG.out _ (Below.refl _ _)).mono ?_; rintro e w0 ⟨rfl, hb0⟩)
    | (go_at_call 12; refine (winNew_any _).mono ?_; rintro e w1 ⟨C, D, rfl, hwin, hc1, hd1, hb1⟩))
  have HW1 : Hid (WinAt (WinS.base ((3 : Nat) : Int)) RttS.zero C D w1) := Lib.hid hwin
  have HB1 : Hid (Below w.heap.size w w1) := Lib.hid (bel_trans hb0 hb1)
  have HNE : Hid (w.heap.size ≤ C ∧ w.heap.size ≤ D) := Lib.hid ⟨Nat.le_trans hb0.size hc1, Nat.le_trans hb0.size hd1⟩
  clear hwin hc1 hd1 hb0 hb1 ha hJ hb hM
  go_loopw [7] (fun _ wr => ∃ c : Nat, 3 ≤ c ∧ c ≤ 4 + J ∧ Hid (WinAt (WinS.base (c : Int)) RttS.zero C D wr) ∧ Hid (Below w.heap.size w wr)) (fun _ wr => cwM C (4 + J) wr)
  case atStart => exact ⟨3, by omega, by omega, HW1, HB1⟩
  case round =>
    obtain ⟨c, hc1, hc2, hw, hbw⟩ := hrel
    have HCW : Hid (Calls Tryz.prog 14 #[.pointer (some ⟨C, 0, none⟩)] wr fun e w' => e = .returned (.int .i64 (c : Int)) ∧ wr = w') := Lib.hid (winCwnd_any (WinS.base (c : Int)) RttS.zero C D wr hw.out)
    by_cases hlt : c < 4 + J
    · have hd : decide ((c : Int) < 4 + (J : Int)) = true := decide_eq_true (by omega)
      go_upto_region 8 with (first
        | (go_at_call 14; (with_reducible refine HCW.out.mono ?_); rintro e w3 ⟨rfl, rfl⟩)
        | (go_at_call 15; (with_reducible refine (heardOne _).mono ?_); rintro e w4 ⟨p, q, rfl, hb4⟩))
      have hk : BlkIs #[.slice p 1 q, .slice none 0 0, .slice none 0 0, .int .i64 0, .int .i64 (-1)] 31 w4.heap.size ((w4.alloc (.cells #[.slice p 1 q, .slice none 0 0, .slice none 0 0, .int .i64 0, .int .i64 (-1)] 31)).alloc (.cells #[.slice p 1 q, .slice none 0 0, .slice none 0 0, .int .i64 0, .int .i64 (-1)] 32)) := (BlkIs.new _ _ _).alloc _
      have hb5 : Below wr.heap.size wr ((w4.alloc (.cells #[.slice p 1 q, .slice none 0 0, .slice none 0 0, .int .i64 0, .int .i64 (-1)] 31)).alloc (.cells #[.slice p 1 q, .slice none 0 0, .slice none 0 0, .int .i64 0, .int .i64 (-1)] 32)) := bel_trans (bel_trans hb4 (bel_alloc _ _)) (bel_alloc _ _)
      have HW5 : Hid (WinAt (WinS.base (c : Int)) RttS.zero C D ((w4.alloc (.cells #[.slice p 1 q, .slice none 0 0, .slice none 0 0, .int .i64 0, .int .i64 (-1)] 31)).alloc (.cells #[.slice p 1 q, .slice none 0 0, .slice none 0 0, .int .i64 0, .int .i64 (-1)] 32))) := Lib.hid (hw.out.below hb5)
      have HB5 : Hid (Below w.heap.size w ((w4.alloc (.cells #[.slice p 1 q, .slice none 0 0, .slice none 0 0, .int .i64 0, .int .i64 (-1)] 31)).alloc (.cells #[.slice p 1 q, .slice none 0 0, .slice none 0 0, .int .i64 0, .int .i64 (-1)] 32))) := Lib.hid (bel_trans hbw.out hb5)
      clear hb4 hb5
      generalize (w4.alloc (.cells #[.slice p 1 q, .slice none 0 0, .slice none 0 0, .int .i64 0, .int .i64 (-1)] 31)).alloc (.cells #[.slice p 1 q, .slice none 0 0, .slice none 0 0, .int .i64 0, .int .i64 (-1)] 32) = w5 at *
      generalize w4.heap.size = B at *
      have x0 : w5.cell? ⟨B, 0, none⟩ = some (.slice p 1 q) := BlkIs.cell hk 0
      have x1 : w5.cell? ⟨B, 1, none⟩ = some (.slice none 0 0) := BlkIs.cell hk 1
      have x2 : w5.cell? ⟨B, 2, none⟩ = some (.slice none 0 0) := BlkIs.cell hk 2
      have x3 : w5.cell? ⟨B, 3, none⟩ = some (.int .i64 0) := BlkIs.cell hk 3
      have x4 : w5.cell? ⟨B, 4, none⟩ = some (.int .i64 (-1)) := BlkIs.cell hk 4
      have HHE := Lib.hid (hearBase (c : Int) (by omega) (by omega) p q C D w5 HW5.out)
      clear hk
      go_wp2_with (go_at_call 16; (with_reducible refine HHE.out.mono ?_); rintro e w6 ⟨rfl, hw6, hk6⟩)
      have e1 := cwM_at (K := 4 + J) hw.out.cells.1
      have e2 := cwM_at (K := 4 + J) hw6.cells.1
      have HW6 : Hid (WinAt (WinS.base ((c + 1 : Nat) : Int)) RttS.zero C D w6) := Lib.hid (by rw [show ((c + 1 : Nat) : Int) = (c : Int) + 1 by omega]; exact hw6)
      refine ⟨⟨c + 1, by omega, by omega, HW6, Lib.hid (kb2 HB5.out hk6 HNE.out.1 HNE.out.2)⟩, ?_⟩
      rw [e1, e2]
      show 4 + J - ((c : Int) + 1).toNat < 4 + J - (c : Int).toNat
      omega
    · have hce : c = 4 + J := by omega
      have hd : decide ((c : Int) < 4 + (J : Int)) = false := decide_eq_false (by omega)
      obtain ⟨H, hH⟩ : ∃ H, (4 + (J : Int)) / 2 = H := ⟨_, rfl⟩
      have hq1 : (4 + (J : Int)).tdiv 2 = H := by rw [Int.tdiv_eq_ediv_of_nonneg (by omega)]; exact hH
      have hcH : (c : Int) / 2 = H := by omega
      have hH2 : 2 ≤ H ∧ H ≤ 500 := by omega
      obtain ⟨hH3, hH4⟩ := hH2
      have HSE : Hid (Calls Tryz.prog 13 #[.pointer (some ⟨C, 0, none⟩), .int .u64 50, .int .i64 0] wr fun e w' => e = .returned (.bool true) ∧ WinAt ((WinS.base (c : Int)).sent 50 (M.winDue 0 RttS.zero.rto)) RttS.zero C D w' ∧ Kept [C] wr w') := Lib.hid (winSent_yes (WinS.base (c : Int)) (base_ok _ (by omega) (by omega)) (show (0 : Int) < (c : Int) by omega) RttS.zero RttS.ok_zero 50 (by decide) 0 (by decide) C D wr hw.out)
      have HLO : Hid (∀ p q W, WinAt ((WinS.base (c : Int)).sent 50 (M.winDue 0 RttS.zero.rto)) RttS.zero C D W → Calls Tryz.prog 16 #[.pointer (some ⟨C, 0, none⟩), .agg #[.slice none 0 0, .slice none 0 0, .slice p 1 q, .int .i64 0, .int .i64 (-1)], .int .i64 0] W fun e w' => e = .returned (.tuple #[]) ∧ WinAt (WinS.av H H 0) RttS.zero C D w' ∧ Kept [C, D] W w') := Lib.hid (fun p q W hW => by
        have h1 := hearLoss (c : Int) (by omega) (by omega) p q C D W hW
        rw [hcH] at h1
        exact h1)
      obtain ⟨wR, rfl⟩ : ∃ wR : World, wR = wr := ⟨_, rfl⟩
      go_upto_region 11 with (first
        | (go_at_call 14; (with_reducible refine HCW.out.mono ?_); rintro e w3 ⟨rfl, rfl⟩)
        | (go_at_call 13; (with_reducible refine HSE.out.mono ?_); rintro e w4 ⟨rfl, hw4, hk4⟩; have hw5 := hw4.below (bel_alloc w4 (.cells #[.int .u64 50] 26)))
        | (go_at_call 16; (with_reducible refine (HLO.out _ _ _ hw5).mono ?_); rintro e w6 ⟨rfl, hw6, hk6⟩))
      have HW6 := Lib.hid hw6
      have HB6 : Hid (Below w.heap.size w w6) := Lib.hid (kb2 (bel_trans (kb2 hbw.out (hk4.more (by simp)) HNE.out.1 HNE.out.2) (bel_alloc _ _)) hk6 HNE.out.1 HNE.out.2)
      clear hw4 hk4 hw5 hw6 hk6 HSE HLO HCW hw hbw
      go_wp2
      go_loopw [9, 10, 11] (fun cv kv iv wr => ∃ (i : Nat) (c k : Int), iv = .int .i64 (i : Int) ∧ cv = .int .i64 c ∧ kv = .int .i64 k ∧ i ≤ Mo ∧ (H ≤ c ∧ c ≤ H + (i : Int)) ∧ (0 ≤ k ∧ k < c) ∧ Hid (WinAt (WinS.av H c k) RttS.zero C D wr) ∧ Hid (Below w.heap.size w wr)) (fun _ _ i _ => Mo - (intOf i).toNat)
      case atStart => exact ⟨0, H, 0, rfl, rfl, rfl, Nat.zero_le _, ⟨by omega, by omega⟩, ⟨by omega, by omega⟩, HW6, HB6⟩
      case round =>
        obtain ⟨i, c, k, rfl, rfl, rfl, hi, ⟨hc3, hc4⟩, ⟨hk1, hk2⟩, hw, hb2⟩ := hrel
        by_cases hiM : i < Mo
        · by_cases hlt : k + 1 < c
          · have hd9 : decide (c ≤ k + 1) = false := decide_eq_false (by omega)
            have HHA : Hid (∀ p q W, WinAt (WinS.av H c k) RttS.zero C D W → Calls Tryz.prog 16 #[.pointer (some ⟨C, 0, none⟩), .agg #[.slice p 1 q, .slice none 0 0, .slice none 0 0, .int .i64 0, .int .i64 (-1)], .int .i64 0] W fun e w' => e = .returned (.tuple #[]) ∧ WinAt (WinS.av H c (k + 1)) RttS.zero C D w' ∧ Kept [C, D] W w') := Lib.hid (fun p q W hW => by
              have h1 := hearAv H c k (by omega) hH4 (by omega) (by omega) hk1 hk2 p q C D W hW
              unfold avC avK at h1
              rw [if_pos hlt, if_pos hlt] at h1
              exact h1)
            have HCW : Hid (∀ W, WinAt (WinS.av H c (k + 1)) RttS.zero C D W → Calls Tryz.prog 14 #[.pointer (some ⟨C, 0, none⟩)] W fun e w' => e = .returned (.int .i64 c) ∧ W = w') := Lib.hid (fun W hW => winCwnd_any (WinS.av H c (k + 1)) RttS.zero C D W hW)
            have hwa := hw.out.below (bel_alloc wr (.cells #[.int .u64 (60 + (i : Int))] 26))
            go_upto_region 14 with (first
              | (go_at_call 16; (with_reducible refine (HHA.out _ _ _ hwa).mono ?_); rintro e w8 ⟨rfl, hw8, hk8⟩)
              | (go_at_call 14; (with_reducible refine (HCW.out _ hw8).mono ?_); rintro e w9 ⟨rfl, rfl⟩))
            have HW8 := Lib.hid hw8
            have HB8 : Hid (Below w.heap.size w w8) := Lib.hid (kb2 (bel_trans hb2.out (bel_alloc _ _)) hk8 HNE.out.1 HNE.out.2)
            clear hwa hw8 hk8 HHA HCW hw hb2
            go_wp2
            refine ⟨⟨i + 1, c, (k + 1), by go_num, rfl, rfl, by omega, ⟨by omega, by omega⟩, ⟨by omega, by omega⟩, HW8, HB8⟩, ?_⟩
            simp [intOf]; omega
          · have hd9 : decide (c ≤ k + 1) = true := decide_eq_true (by omega)
            have HHA : Hid (∀ p q W, WinAt (WinS.av H c k) RttS.zero C D W → Calls Tryz.prog 16 #[.pointer (some ⟨C, 0, none⟩), .agg #[.slice p 1 q, .slice none 0 0, .slice none 0 0, .int .i64 0, .int .i64 (-1)], .int .i64 0] W fun e w' => e = .returned (.tuple #[]) ∧ WinAt (WinS.av H (c + 1) (k + 1 - c)) RttS.zero C D w' ∧ Kept [C, D] W w') := Lib.hid (fun p q W hW => by
              have h1 := hearAv H c k (by omega) hH4 (by omega) (by omega) hk1 hk2 p q C D W hW
              unfold avC avK at h1
              rw [if_neg hlt, if_neg hlt] at h1
              exact h1)
            have HCW : Hid (∀ W, WinAt (WinS.av H (c + 1) (k + 1 - c)) RttS.zero C D W → Calls Tryz.prog 14 #[.pointer (some ⟨C, 0, none⟩)] W fun e w' => e = .returned (.int .i64 (c + 1)) ∧ W = w') := Lib.hid (fun W hW => winCwnd_any (WinS.av H (c + 1) (k + 1 - c)) RttS.zero C D W hW)
            have hwa := hw.out.below (bel_alloc wr (.cells #[.int .u64 (60 + (i : Int))] 26))
            go_upto_region 14 with (first
              | (go_at_call 16; (with_reducible refine (HHA.out _ _ _ hwa).mono ?_); rintro e w8 ⟨rfl, hw8, hk8⟩)
              | (go_at_call 14; (with_reducible refine (HCW.out _ hw8).mono ?_); rintro e w9 ⟨rfl, rfl⟩))
            have HW8 := Lib.hid hw8
            have HB8 : Hid (Below w.heap.size w w8) := Lib.hid (kb2 (bel_trans hb2.out (bel_alloc _ _)) hk8 HNE.out.1 HNE.out.2)
            clear hwa hw8 hk8 HHA HCW hw hb2
            go_wp2
            refine ⟨⟨i + 1, (c + 1), (k + 1 - c), by go_num, rfl, rfl, by omega, ⟨by omega, by omega⟩, ⟨by omega, by omega⟩, HW8, HB8⟩, ?_⟩
            simp [intOf]; omega
        · have HSL : Hid (Calls Tryz.prog 18 #[.pointer (some ⟨C, 0, none⟩)] wr fun e w' => e = .returned (.int .i64 H) ∧ wr = w') := Lib.hid (winSlow_any (WinS.av H c k) RttS.zero C D wr hw.out)
          go_wp2_with (go_at_call 18; (with_reducible refine HSL.out.mono ?_); rintro e w9 ⟨rfl, rfl⟩)
          go_ret
          exact ⟨by simp, hb2.out⟩
end Go.Proofs.YtjbgbdiogfdokaaGreatDoor

namespace Go.Proofs.YtjbgbdiogfdokaaGreatDoor
open Go.ChangeShapes Go.WideShapes Go.ChangeAt Go.RowKit
set_option linter.unusedVariables false
set_option linter.unusedSimpArgs false

/-- i of N are sent. -/
structure SnS (N i : Int) (s : WinS) : Prop where
  ok : s.ok
  c : s.cwnd = N
  sl : s.slow = 1000000
  p : s.pipe = i
  k : s.count = 0
  h : s.hk = false
  l : 0 < i → (s.ln : Int) = 99 + i ∧ s.lk = true
theorem SnS.next {N i : Int} {s : WinS} (h : SnS N i s) (h0 : 0 ≤ i) (h1 : i < N) (h2 : N ≤ 900) (n : Nat) (hn : (n : Int) = 100 + i) (due : Int) : SnS N (i + 1) (s.sent n due) := by
  obtain ⟨⟨o0, o1, o2, o3, o4, o5⟩, hc, hs, hp, hk, hh, hl⟩ := h
  unfold WinS.sent
  split
  · exact ⟨⟨o0, o1, by simp only; omega, o3, by simp only; omega, o5⟩, hc, hs, by simp only; omega, hk, hh, fun _ => ⟨by simp only; omega, rfl⟩⟩
  · exact ⟨⟨o0, o1, by simp only; omega, o3, by simp only; omega, o5⟩, hc, hs, by simp only; omega, hk, hh, fun _ => ⟨by simp only; omega, rfl⟩⟩
/-- Behind the first mark: i of N were heard of. -/
def WinS.mk5 (N H c k : Int) (l : Nat) (i : Int) : WinS := ⟨c, H, N - i, k, l, true, l, true, 3000000, true⟩
theorem mk5_ok (N H c k : Int) (l : Nat) (i : Int) (h0 : 0 ≤ i) (hi : i ≤ N) (hN : N ≤ 900) (h1 : 1 ≤ H) (h3 : H ≤ c) (h4 : c ≤ 1000) (h5 : 0 ≤ k) (h6 : k < c) (hl : l < 1000) : (WinS.mk5 N H c k l i).ok := wok (by omega) (by omega) (by omega) (by omega) (by omega) (by omega)
theorem mark_one (N : Int) (hN : 6 ≤ N) (hN2 : N ≤ 900) (s : WinS) (hs : SnS N N s) (p : Option Addr) (cG C D : Nat) (w : World) (h : WinAt s RttS.zero C D w) :
    Calls Tryz.prog 16 #[.pointer (some ⟨C, 0, none⟩), .agg #[.slice p 1 cG, .slice none 0 0, .slice none 0 0, .int .i64 1, .int .i64 (-1)], .int .i64 0] w fun e w' => e = .returned (.tuple #[]) ∧ WinAt (WinS.mk5 N ((N + 1) / 2) ((N + 1) / 2) 0 s.ln 1) RttS.zero C D w' ∧ Kept [C, D] w w' := by
  obtain ⟨so, hc, hsl, hp, hk, hh, hl⟩ := hs
  obtain ⟨hl1, hl2⟩ := hl (by omega)
  obtain ⟨o0, o1, o2, o3, o4, o5⟩ := so
  obtain ⟨z, hz⟩ : ∃ z : WinS, s.less 1 0 = z := ⟨_, rfl⟩
  have zp : z.pipe = N - 1 := by rw [← hz]; show max (s.pipe - ((1 : Nat) : Int) - ((0 : Nat) : Int)) 0 = N - 1; omega
  have zc : z.cwnd = N := by rw [← hz]; exact hc
  have zs : z.slow = 1000000 := by rw [← hz]; exact hsl
  have zk : z.count = 0 := by rw [← hz]; exact hk
  have zl : z.ln = s.ln := by rw [← hz]; rfl
  have zlk : z.lk = true := by rw [← hz]; exact hl2
  have zh : z.hk = false := by rw [← hz]; exact hh
  have zhn : z.hn = s.hn := by rw [← hz]; rfl
  have zo : z.ok := ⟨by omega, by omega, by omega, by omega, by omega, by omega⟩
  have hf : z.fast 1 = 1 := by unfold WinS.fast; omega
  obtain ⟨y, hy⟩ : ∃ y : WinS, z.grow 1 = y := ⟨_, rfl⟩
  have hye : y = { z with cwnd := N + 1, count := 0 } := by
    rw [← hy]
    unfold WinS.grow
    rw [hf, if_pos (by omega), zc, zk]
    rfl
  have yo : y.ok := by
    obtain ⟨q0, q1, q2, q3, q4, q5⟩ := zo
    rw [hye]
    exact ⟨by simp only; omega, q1, q2, by simp only; omega, q4, q5⟩
  have h9 := winHear_any s y ⟨o0, o1, o2, o3, o4, o5⟩ RttS.zero RttS.zero RttS.ok_zero 1 0 (by decide) (by decide) (by rw [hz]; exact zo)
    (by rw [hz, show ((1 : Nat) : Int) = 1 from rfl, hf]; omega) (by rw [hz]; exact hy) yo p none cG 0 (.slice none 0 0) 1 (-1) 0 (by decide) rfl true C D w h
    (.inr ⟨.inr (by decide), fun W hW hK => isNews_first y (by rw [hye]; exact zh) _ _ _ _ _ RttS.zero C D W hW⟩)
  have he : (y.wrong true).clock (M.winDue 0 RttS.zero.rto) = WinS.mk5 N ((N + 1) / 2) ((N + 1) / 2) 0 s.ln 1 := by
    have hw : y.wrong true = ⟨(N + 1) / 2, (N + 1) / 2, N - 1, 0, s.ln, true, s.ln, true, z.due, z.runs⟩ := by
      unfold WinS.wrong WinS.halve
      rw [if_pos rfl, hye]
      simp only [zp, zl, zlk]
      congr 1 <;> omega
    rw [hw]
    unfold WinS.clock
    rw [if_pos (show (0 : Int) < N - 1 by omega)]
    rfl
  rw [he] at h9
  exact h9
theorem diff_mk (N i : Int) (hN : 6 ≤ N) (hN2 : N ≤ 900) (hi : 1 ≤ i) (hi2 : i ≤ 4) (l x : Nat) (hl : (l : Int) = 99 + N) (hx : (x : Int) = 100 + i) : decide (diffI l x < 0) = false := by
  refine decide_eq_false ?_
  unfold diffI
  omega
theorem mark_more (N H c k i : Int) (hN : 6 ≤ N) (hN2 : N ≤ 900) (hi : 1 ≤ i) (hi2 : i ≤ 4) (h1 : 1 ≤ H) (h2 : H ≤ 500) (h3 : H ≤ c) (h4 : c ≤ 900) (h5 : 0 ≤ k) (h6 : k < c) (l : Nat) (hl : (l : Int) = 99 + N) (hl2 : l < 1000) (g cG x C D : Nat) (hx : (x : Int) = 100 + i) (w : World) (h : WinAt (WinS.mk5 N H c k l i) RttS.zero C D w)
    (hg : g < w.heap.size) (hgC : g ≠ C) (hgD : g ≠ D) (hxc : w.cell? ⟨g, 0, none⟩ = some (.int .u64 x)) :
    Calls Tryz.prog 16 #[.pointer (some ⟨C, 0, none⟩), .agg #[.slice (some ⟨g, 0, none⟩) 1 cG, .slice none 0 0, .slice none 0 0, .int .i64 1, .int .i64 (-1)], .int .i64 0] w fun e w' => e = .returned (.tuple #[]) ∧ WinAt (WinS.mk5 N H (avC c k) (avK c k) l (i + 1)) RttS.zero C D w' ∧ Kept [C, D] w w' := by
  have hle : (WinS.mk5 N H c k l i).less 1 0 = WinS.mk5 N H c k l (i + 1) := by
    show (⟨c, H, max (N - i - ((1 : Nat) : Int) - ((0 : Nat) : Int)) 0, k, l, true, l, true, 3000000, true⟩ : WinS) = ⟨c, H, N - (i + 1), k, l, true, l, true, 3000000, true⟩
    congr 1
    omega
  have hf : (WinS.mk5 N H c k l (i + 1)).fast 1 = 0 := by
    show max (min 1 (H - c)) 0 = 0
    omega
  have hgr : (WinS.mk5 N H c k l (i + 1)).grow 1 = WinS.mk5 N H (avC c k) (avK c k) l (i + 1) := by
    unfold WinS.grow avC avK
    rw [hf]
    by_cases hlt : k + 1 < c
    · rw [if_pos hlt, if_pos hlt]
      refine (if_pos (show (WinS.mk5 N H c k l (i + 1)).count + (1 - 0) < (WinS.mk5 N H c k l (i + 1)).cwnd + 0 from (show k + (1 - 0) < c + 0 by omega))).trans ?_
      show (⟨c + 0, H, N - (i + 1), k + (1 - 0), l, true, l, true, 3000000, true⟩ : WinS) = ⟨c, H, N - (i + 1), k + 1, l, true, l, true, 3000000, true⟩
      congr 1 <;> omega
    · rw [if_neg hlt, if_neg hlt]
      refine (if_neg (show ¬ (WinS.mk5 N H c k l (i + 1)).count + (1 - 0) < (WinS.mk5 N H c k l (i + 1)).cwnd + 0 from (show ¬ k + (1 - 0) < c + 0 by omega))).trans ?_
      show (⟨c + 0 + 1, H, N - (i + 1), k + (1 - 0) - (c + 0), l, true, l, true, 3000000, true⟩ : WinS) = ⟨c + 1, H, N - (i + 1), k + 1 - c, l, true, l, true, 3000000, true⟩
      congr 1 <;> omega
  have ho : (WinS.mk5 N H (avC c k) (avK c k) l (i + 1)).ok := by
    unfold avC avK
    split
    · exact mk5_ok _ _ _ _ _ _ (by omega) (by omega) hN2 h1 (by omega) (by omega) (by omega) (by omega) hl2
    · exact mk5_ok _ _ _ _ _ _ (by omega) (by omega) hN2 h1 (by omega) (by omega) (by omega) (by omega) hl2
  have hd := diff_mk N i hN hN2 hi hi2 l x hl hx
  have h9 := winHear_any (WinS.mk5 N H c k l i) _ (mk5_ok _ _ _ _ _ _ (by omega) (by omega) hN2 h1 h3 (by omega) h5 h6 hl2) RttS.zero RttS.zero RttS.ok_zero 1 0 (by decide) (by decide) (by rw [hle]; exact mk5_ok _ _ _ _ _ _ (by omega) (by omega) hN2 h1 h3 (by omega) h5 h6 hl2)
    (by rw [hle, show ((1 : Nat) : Int) = 1 from rfl, hf]; show k + (1 - 0) ≤ 2 * (c + 0); omega) (by rw [hle]; exact hgr) ho (some ⟨g, 0, none⟩) none cG 0 (.slice none 0 0) 1 (-1) 0 (by decide) rfl false C D w h
    (.inr ⟨.inr (by decide), fun W hW hK => by
      have h8 := isNews_got _ ho rfl (.int .i64 1) (.int .i64 (-1)) none none 0 0 g cG x (by omega) RttS.zero C D W hW (Nat.lt_of_lt_of_le hg hK.size) ((hK.cell (p := ⟨g, 0, none⟩) hg (by simp; exact ⟨hgC, hgD⟩)).trans hxc)
      rw [show (WinS.mk5 N H (avC c k) (avK c k) l (i + 1)).hn = l from rfl, hd] at h8
      exact h8⟩)
  have he : ((WinS.mk5 N H (avC c k) (avK c k) l (i + 1)).wrong false).clock (M.winDue 0 RttS.zero.rto) = WinS.mk5 N H (avC c k) (avK c k) l (i + 1) := by
    show (WinS.mk5 N H (avC c k) (avK c k) l (i + 1)).clock 3000000 = _
    unfold WinS.clock
    exact if_pos (show (0 : Int) < (WinS.mk5 N H (avC c k) (avK c k) l (i + 1)).pipe from (show (0 : Int) < N - (i + 1) by omega))
  rw [he] at h9
  exact h9
set_option maxHeartbeats 16000000 in
set_option maxRecDepth 100000 in
theorem winMarks_walk (n : Int) (n1 : -9223372036854775808 ≤ n) (n2 : n ≤ 9223372036854775807) (pm : Option Addr) (ml mc : Nat) (hml : ml ≤ mc) (hmc : mc ≤ 9223372036854775807) (w : World) (hT : TabW w) :
    Calls Tryz.prog 8 #[.int .i64 n, .slice pm ml mc] w fun e w' => e = .returned (.bool true) ∧ Below w.heap.size w w' := by
  have HBG : Hid (∀ W, Below w.heap.size w W → Calls Tryz.prog 11 #[] W fun e w' => e = .returned (.bool true) ∧ Below W.heap.size W w') := Lib.hid (fun W hb => begun8_any W (hT.below hb))
  clear hT
  obtain ⟨a, ha, a1, a2, J, hJ, hJ3⟩ := mod_at9 n 30 (by decide)
  go_enter Tryz.func8, Tryz.ntmps8
  go_upto_region 6 with (first
    | (go_at_call 11; refine (HBG.out _ (Below.refl _ _)).mono ?_; rintro e w0 ⟨rfl, hb0⟩)
    | (go_at_call 12; refine (winNew_any _).mono ?_; rintro e w1 ⟨C, D, rfl, hwin, hc1, hd1, hb1⟩))
  have HW1 : Hid (WinAt (WinS.base ((3 : Nat) : Int)) RttS.zero C D w1) := Lib.hid hwin
  have HB1 : Hid (Below w.heap.size w w1) := Lib.hid (bel_trans hb0 hb1)
  have HNE : Hid (w.heap.size ≤ C ∧ w.heap.size ≤ D) := Lib.hid ⟨Nat.le_trans hb0.size hc1, Nat.le_trans hb0.size hd1⟩
  clear hwin hc1 hd1 hb0 hb1 ha hJ
  go_loopw [7] (fun _ wr => ∃ c : Nat, 3 ≤ c ∧ c ≤ 6 + J ∧ Hid (WinAt (WinS.base (c : Int)) RttS.zero C D wr) ∧ Hid (Below w.heap.size w wr)) (fun _ wr => cwM C (6 + J) wr)
  case atStart => exact ⟨3, by omega, by omega, HW1, HB1⟩
  case round =>
    obtain ⟨c, hc1, hc2, hw, hbw⟩ := hrel
    have HCW : Hid (Calls Tryz.prog 14 #[.pointer (some ⟨C, 0, none⟩)] wr fun e w' => e = .returned (.int .i64 (c : Int)) ∧ wr = w') := Lib.hid (winCwnd_any (WinS.base (c : Int)) RttS.zero C D wr hw.out)
    by_cases hlt : c < 6 + J
    · have hd : decide ((c : Int) < 6 + (J : Int)) = true := decide_eq_true (by omega)
      go_upto_region 8 with (first
        | (go_at_call 14; (with_reducible refine HCW.out.mono ?_); rintro e w3 ⟨rfl, rfl⟩)
        | (go_at_call 15; (with_reducible refine (heardOne _).mono ?_); rintro e w4 ⟨p, q, rfl, hb4⟩))
      have hk : BlkIs #[.slice p 1 q, .slice none 0 0, .slice none 0 0, .int .i64 0, .int .i64 (-1)] 31 w4.heap.size ((w4.alloc (.cells #[.slice p 1 q, .slice none 0 0, .slice none 0 0, .int .i64 0, .int .i64 (-1)] 31)).alloc (.cells #[.slice p 1 q, .slice none 0 0, .slice none 0 0, .int .i64 0, .int .i64 (-1)] 32)) := (BlkIs.new _ _ _).alloc _
      have hb5 : Below wr.heap.size wr ((w4.alloc (.cells #[.slice p 1 q, .slice none 0 0, .slice none 0 0, .int .i64 0, .int .i64 (-1)] 31)).alloc (.cells #[.slice p 1 q, .slice none 0 0, .slice none 0 0, .int .i64 0, .int .i64 (-1)] 32)) := bel_trans (bel_trans hb4 (bel_alloc _ _)) (bel_alloc _ _)
      have HW5 : Hid (WinAt (WinS.base (c : Int)) RttS.zero C D ((w4.alloc (.cells #[.slice p 1 q, .slice none 0 0, .slice none 0 0, .int .i64 0, .int .i64 (-1)] 31)).alloc (.cells #[.slice p 1 q, .slice none 0 0, .slice none 0 0, .int .i64 0, .int .i64 (-1)] 32))) := Lib.hid (hw.out.below hb5)
      have HB5 : Hid (Below w.heap.size w ((w4.alloc (.cells #[.slice p 1 q, .slice none 0 0, .slice none 0 0, .int .i64 0, .int .i64 (-1)] 31)).alloc (.cells #[.slice p 1 q, .slice none 0 0, .slice none 0 0, .int .i64 0, .int .i64 (-1)] 32))) := Lib.hid (bel_trans hbw.out hb5)
      clear hb4 hb5
      generalize (w4.alloc (.cells #[.slice p 1 q, .slice none 0 0, .slice none 0 0, .int .i64 0, .int .i64 (-1)] 31)).alloc (.cells #[.slice p 1 q, .slice none 0 0, .slice none 0 0, .int .i64 0, .int .i64 (-1)] 32) = w5 at *
      generalize w4.heap.size = B at *
      have x0 : w5.cell? ⟨B, 0, none⟩ = some (.slice p 1 q) := BlkIs.cell hk 0
      have x1 : w5.cell? ⟨B, 1, none⟩ = some (.slice none 0 0) := BlkIs.cell hk 1
      have x2 : w5.cell? ⟨B, 2, none⟩ = some (.slice none 0 0) := BlkIs.cell hk 2
      have x3 : w5.cell? ⟨B, 3, none⟩ = some (.int .i64 0) := BlkIs.cell hk 3
      have x4 : w5.cell? ⟨B, 4, none⟩ = some (.int .i64 (-1)) := BlkIs.cell hk 4
      have HHE := Lib.hid (hearBase (c : Int) (by omega) (by omega) p q C D w5 HW5.out)
      clear hk
      go_wp2_with (go_at_call 16; (with_reducible refine HHE.out.mono ?_); rintro e w6 ⟨rfl, hw6, hk6⟩)
      have e1 := cwM_at (K := 6 + J) hw.out.cells.1
      have e2 := cwM_at (K := 6 + J) hw6.cells.1
      have HW6 : Hid (WinAt (WinS.base ((c + 1 : Nat) : Int)) RttS.zero C D w6) := Lib.hid (by rw [show ((c + 1 : Nat) : Int) = (c : Int) + 1 by omega]; exact hw6)
      refine ⟨⟨c + 1, by omega, by omega, HW6, Lib.hid (kb2 HB5.out hk6 HNE.out.1 HNE.out.2)⟩, ?_⟩
      rw [e1, e2]
      show 6 + J - ((c : Int) + 1).toNat < 6 + J - (c : Int).toNat
      omega
    · have hd : decide ((c : Int) < 6 + (J : Int)) = false := decide_eq_false (by omega)
      have HS0 : Hid (SnS (6 + (J : Int)) ((0 : Nat) : Int) (WinS.base (c : Int)) ∧ WinAt (WinS.base (c : Int)) RttS.zero C D wr) := Lib.hid ⟨⟨base_ok _ (by omega) (by omega), show (c : Int) = 6 + (J : Int) by omega, rfl, rfl, rfl, rfl, fun h => absurd h (by decide)⟩, hw.out⟩
      obtain ⟨wR, rfl⟩ : ∃ wR : World, wR = wr := ⟨_, rfl⟩
      go_wp2_with (go_at_call 14; (with_reducible refine HCW.out.mono ?_); rintro e w3 ⟨rfl, rfl⟩)
      clear HCW hw
      go_loopw [9] (fun iv wr => ∃ (i : Nat) (s : WinS), iv = .int .i64 (i : Int) ∧ i ≤ 6 + J ∧ Hid (SnS (6 + (J : Int)) (i : Int) s ∧ WinAt s RttS.zero C D wr) ∧ Hid (Below w.heap.size w wr)) (fun iv _ => 6 + J - (intOf iv).toNat)
      case atStart => exact ⟨0, _, rfl, Nat.zero_le _, HS0, hbw⟩
      case round =>
        obtain ⟨i, s, rfl, hi, hs, hb2⟩ := hrel
        by_cases hiN : i < 6 + J
        · have hdi : decide ((i : Int) < 6 + (J : Int)) = true := decide_eq_true (by omega)
          have HSE : Hid (Calls Tryz.prog 13 #[.pointer (some ⟨C, 0, none⟩), .int .u64 (100 + (i : Int)), .int .i64 0] wr fun e w' => e = .returned (.bool true) ∧ WinAt (s.sent (100 + i) (M.winDue 0 RttS.zero.rto)) RttS.zero C D w' ∧ Kept [C] wr w') := Lib.hid (by
            have h1 := winSent_yes s hs.out.1.ok (by rw [hs.out.1.p, hs.out.1.c]; omega) RttS.zero RttS.ok_zero (100 + i) (by omega) 0 (by decide) C D wr hs.out.2
            rw [show ((100 + i : Nat) : Int) = 100 + (i : Int) by omega] at h1
            exact h1)
          have HSN : Hid (SnS (6 + (J : Int)) ((i + 1 : Nat) : Int) (s.sent (100 + i) (M.winDue 0 RttS.zero.rto))) := Lib.hid (by
            rw [show ((i + 1 : Nat) : Int) = (i : Int) + 1 by omega]
            exact hs.out.1.next (by omega) (by omega) (by omega) (100 + i) (by omega) _)
          go_wp2_with (go_at_call 13; (with_reducible refine HSE.out.mono ?_); rintro e w4 ⟨rfl, hw4, hk4⟩)
          refine ⟨⟨i + 1, _, by go_num, by omega, Lib.hid ⟨HSN.out, hw4⟩, Lib.hid (kb2 hb2.out (hk4.more (by simp)) HNE.out.1 HNE.out.2)⟩, ?_⟩
          simp [intOf]; omega
        · have hie : i = 6 + J := by omega
          have hdi : decide ((i : Int) < 6 + (J : Int)) = false := decide_eq_false (by omega)
          have HSI : Hid (SnS (6 + (J : Int)) (6 + (J : Int)) s ∧ WinAt s RttS.zero C D wr) := Lib.hid (by
            have h1 := hs.out
            rw [show (i : Int) = 6 + (J : Int) by omega] at h1
            exact h1)
          have HCW : Hid (Calls Tryz.prog 14 #[.pointer (some ⟨C, 0, none⟩)] wr fun e w' => e = .returned (.int .i64 (6 + (J : Int))) ∧ wr = w') := Lib.hid (by
            have h1 := winCwnd_any s RttS.zero C D wr hs.out.2
            rw [hs.out.1.c] at h1
            exact h1)
          obtain ⟨H, hH⟩ : ∃ H, (6 + (J : Int) + 1) / 2 = H := ⟨_, rfl⟩
          have hq1 : (6 + (J : Int) + 1).tdiv 2 = H := by rw [Int.tdiv_eq_ediv_of_nonneg (by omega)]; exact hH
          have hH2 : 2 ≤ H ∧ H ≤ 100 := by omega
          obtain ⟨hH3, hH4⟩ := hH2
          obtain ⟨N, hN⟩ : ∃ N, 6 + (J : Int) = N := ⟨_, rfl⟩
          have hN6 : 6 ≤ N ∧ N ≤ 40 := by omega
          obtain ⟨hN7, hN8⟩ := hN6
          have HL : Hid ((s.ln : Int) = 99 + N) := Lib.hid (by have h1 := (HSI.out.1.l (by omega)).1; omega)
          have HM1 : Hid (∀ p q W, WinAt s RttS.zero C D W → Calls Tryz.prog 16 #[.pointer (some ⟨C, 0, none⟩), .agg #[.slice p 1 q, .slice none 0 0, .slice none 0 0, .int .i64 1, .int .i64 (-1)], .int .i64 0] W fun e w' => e = .returned (.tuple #[]) ∧ WinAt (WinS.mk5 N H H 0 s.ln 1) RttS.zero C D w' ∧ Kept [C, D] W w') := Lib.hid (fun p q W hW => by
            have h1 := mark_one N hN7 (by omega) s (by rw [← hN]; exact HSI.out.1) p q C D W hW
            rw [show (N + 1) / 2 = H by omega] at h1
            exact h1)
          obtain ⟨wS, rfl⟩ : ∃ wS : World, wS = wr := ⟨_, rfl⟩
          rw [hN] at HCW hdi hq1
          go_wp2_with (go_at_call 14; (with_reducible refine HCW.out.mono ?_); rintro e w3 ⟨rfl, rfl⟩)
          have HCS : Hid (∀ W, WinAt s RttS.zero C D W → Calls Tryz.prog 14 #[.pointer (some ⟨C, 0, none⟩)] W fun e w' => e = .returned (.int .i64 N) ∧ W = w') := Lib.hid (fun W hW => by
            have h1 := winCwnd_any s RttS.zero C D W hW
            rw [HSI.out.1.c, hN] at h1
            exact h1)
          have HWS : Hid (WinAt s RttS.zero C D wS) := Lib.hid HSI.out.2
          clear HCW hs
          go_loopw [11] (fun iv wx => ∃ i : Nat, iv = .int .i64 (i : Int) ∧ i ≤ 5 ∧ i ≤ ml ∧ Hid (Below w.heap.size w wx) ∧ ((i = 0 ∧ Hid (WinAt s RttS.zero C D wx)) ∨ (0 < i ∧ ∃ c k : Int, H ≤ c ∧ c ≤ H + (i : Int) ∧ 0 ≤ k ∧ k < c ∧ Hid (WinAt (WinS.mk5 N H c k s.ln (i : Int)) RttS.zero C D wx)))) (fun iv _ => 5 - (intOf iv).toNat)
          case atStart => exact ⟨0, rfl, by omega, Nat.zero_le _, hb2, .inl ⟨rfl, HWS⟩⟩
          case round =>
            obtain ⟨i, rfl, hi5, him, hb3, hst⟩ := hrel
            by_cases hl : i < ml ∧ i < 5
            · obtain ⟨hl1, hl2⟩ := hl
              have hd1 : decide ((i : Int) < (ml : Int)) = true := decide_eq_true (by omega)
              have hd2 : decide ((i : Int) < 5) = true := decide_eq_true (by omega)
              rcases hst with ⟨hi0, hw⟩ | ⟨hi0, c, k, hc1, hc2, hk1, hk2, hw⟩
              · subst hi0
                have hm0 : 0 < ml := hl1
                have hd0 : decide ((0 : Int) < (ml : Int)) = true := decide_eq_true (by omega)
                have hwa := hw.out.below (bel_alloc wr (.cells #[.int .u64 100] 26))
                have HC1 : Hid (∀ W, WinAt (WinS.mk5 N H H 0 s.ln 1) RttS.zero C D W → Calls Tryz.prog 14 #[.pointer (some ⟨C, 0, none⟩)] W fun e w' => e = .returned (.int .i64 H) ∧ W = w') := Lib.hid (fun W hW => winCwnd_any (WinS.mk5 N H H 0 s.ln 1) RttS.zero C D W hW)
                have HC0 := Lib.hid (HCS.out wr hw.out)
                clear hd1 hd2
                go_upto_region 18 with (go_at_call 14; (with_reducible refine HC0.out.mono ?_); rintro e w5 ⟨rfl, rfl⟩)
                go_upto_region 16 with (first
                  | (go_at_call 16; (with_reducible refine (HM1.out _ _ _ hwa).mono ?_); rintro e w8 ⟨rfl, hw8, hk8⟩)
                  | (go_at_call 14; (with_reducible refine (HC1.out _ hw8).mono ?_); rintro e w9 ⟨rfl, rfl⟩))
                have HW8 := Lib.hid hw8
                have HB8 : Hid (Below w.heap.size w w8) := Lib.hid (kb2 (bel_trans hb3.out (bel_alloc _ _)) hk8 HNE.out.1 HNE.out.2)
                clear hw8 hk8 hwa HC1 HC0 hw hb3
                go_wp2
                refine ⟨⟨1, by go_num, by omega, by omega, HB8, .inr ⟨by omega, H, 0, by omega, by omega, by omega, by omega, HW8⟩⟩, ?_⟩
                simp [intOf]
              · have hne : ((i : Int) == 0) = false := by rw [beq_eq_false_iff_ne]; omega
                have hgt : decide ((0 : Int) < (i : Int)) = true := decide_eq_true (by omega)
                have HC1 : Hid (Calls Tryz.prog 14 #[.pointer (some ⟨C, 0, none⟩)] wr fun e w' => e = .returned (.int .i64 c) ∧ wr = w') := Lib.hid (winCwnd_any (WinS.mk5 N H c k s.ln (i : Int)) RttS.zero C D wr hw.out)
                by_cases hlt : k + 1 < c
                · skip
                  have HMM : Hid (Calls Tryz.prog 16 #[.pointer (some ⟨C, 0, none⟩), .agg #[.slice (some ⟨wr.heap.size, 0, none⟩) 1 1, .slice none 0 0, .slice none 0 0, .int .i64 1, .int .i64 (-1)], .int .i64 0] (wr.alloc (.cells #[.int .u64 (100 + (i : Int))] 26)) fun e w' => e = .returned (.tuple #[]) ∧ WinAt (WinS.mk5 N H c (k + 1) s.ln ((i : Int) + 1)) RttS.zero C D w' ∧ Kept [C, D] (wr.alloc (.cells #[.int .u64 (100 + (i : Int))] 26)) w') := Lib.hid (by
                    have h2 : (wr.alloc (.cells #[.int .u64 (100 + (i : Int))] 26)).cell? ⟨wr.heap.size, 0, none⟩ = some (.int .u64 ((100 + i : Nat) : Int)) := by
                      rw [show ((100 + i : Nat) : Int) = 100 + (i : Int) by omega]
                      exact BlkIs.cell (BlkIs.new #[.int .u64 (100 + (i : Int))] 26 wr) 0
                    have h1 := mark_more N H c k (i : Int) hN7 (by omega) (by omega) (by omega) (by omega) (by omega) hc1 (by omega) hk1 hk2 s.ln HL.out (by have := HL.out; omega) wr.heap.size 1 (100 + i) C D (by omega) _ (hw.out.below (bel_alloc wr (.cells #[.int .u64 (100 + (i : Int))] 26))) (by simp) (by have := hw.out.win.lt; omega) (by have := BlkIs.lt hw.out.rtt; omega) h2
                    unfold avC avK at h1
                    rw [if_pos hlt, if_pos hlt] at h1
                    exact h1)
                  have HC2 : Hid (∀ W, WinAt (WinS.mk5 N H c (k + 1) s.ln ((i : Int) + 1)) RttS.zero C D W → Calls Tryz.prog 14 #[.pointer (some ⟨C, 0, none⟩)] W fun e w' => e = .returned (.int .i64 c) ∧ W = w') := Lib.hid (fun W hW => winCwnd_any (WinS.mk5 N H c (k + 1) s.ln ((i : Int) + 1)) RttS.zero C D W hW)
                  have hz1 : decide (c < c) = false := decide_eq_false (by omega)
                  have hz2 : decide (c + 1 < c) = false := decide_eq_false (by omega)
                  go_upto_region 18 with (go_at_call 14; (with_reducible refine HC1.out.mono ?_); rintro e w5 ⟨rfl, rfl⟩)
                  go_upto_region 16 with (first
                    | (go_at_call 16; (with_reducible refine HMM.out.mono ?_); rintro e w8 ⟨rfl, hw8, hk8⟩)
                    | (go_at_call 14; (with_reducible refine (HC2.out _ hw8).mono ?_); rintro e w9 ⟨rfl, rfl⟩))
                  have HW8 := Lib.hid hw8
                  have HB8 : Hid (Below w.heap.size w w8) := Lib.hid (kb2 (bel_trans hb3.out (bel_alloc _ _)) hk8 HNE.out.1 HNE.out.2)
                  clear hw8 hk8 HMM HC1 HC2 hw hb3
                  go_wp2
                  refine ⟨⟨i + 1, by go_num, by omega, by omega, HB8, .inr ⟨by omega, c, (k + 1), by omega, by omega, by omega, by omega, Lib.hid (by rw [show ((i + 1 : Nat) : Int) = (i : Int) + 1 by omega]; exact HW8.out)⟩⟩, ?_⟩
                  simp [intOf]; omega
                · skip
                  have HMM : Hid (Calls Tryz.prog 16 #[.pointer (some ⟨C, 0, none⟩), .agg #[.slice (some ⟨wr.heap.size, 0, none⟩) 1 1, .slice none 0 0, .slice none 0 0, .int .i64 1, .int .i64 (-1)], .int .i64 0] (wr.alloc (.cells #[.int .u64 (100 + (i : Int))] 26)) fun e w' => e = .returned (.tuple #[]) ∧ WinAt (WinS.mk5 N H (c + 1) (k + 1 - c) s.ln ((i : Int) + 1)) RttS.zero C D w' ∧ Kept [C, D] (wr.alloc (.cells #[.int .u64 (100 + (i : Int))] 26)) w') := Lib.hid (by
                    have h2 : (wr.alloc (.cells #[.int .u64 (100 + (i : Int))] 26)).cell? ⟨wr.heap.size, 0, none⟩ = some (.int .u64 ((100 + i : Nat) : Int)) := by
                      rw [show ((100 + i : Nat) : Int) = 100 + (i : Int) by omega]
                      exact BlkIs.cell (BlkIs.new #[.int .u64 (100 + (i : Int))] 26 wr) 0
                    have h1 := mark_more N H c k (i : Int) hN7 (by omega) (by omega) (by omega) (by omega) (by omega) hc1 (by omega) hk1 hk2 s.ln HL.out (by have := HL.out; omega) wr.heap.size 1 (100 + i) C D (by omega) _ (hw.out.below (bel_alloc wr (.cells #[.int .u64 (100 + (i : Int))] 26))) (by simp) (by have := hw.out.win.lt; omega) (by have := BlkIs.lt hw.out.rtt; omega) h2
                    unfold avC avK at h1
                    rw [if_neg hlt, if_neg hlt] at h1
                    exact h1)
                  have HC2 : Hid (∀ W, WinAt (WinS.mk5 N H (c + 1) (k + 1 - c) s.ln ((i : Int) + 1)) RttS.zero C D W → Calls Tryz.prog 14 #[.pointer (some ⟨C, 0, none⟩)] W fun e w' => e = .returned (.int .i64 (c + 1)) ∧ W = w') := Lib.hid (fun W hW => winCwnd_any (WinS.mk5 N H (c + 1) (k + 1 - c) s.ln ((i : Int) + 1)) RttS.zero C D W hW)
                  have hz1 : decide ((c + 1) < c) = false := decide_eq_false (by omega)
                  have hz2 : decide (c + 1 < (c + 1)) = false := decide_eq_false (by omega)
                  go_upto_region 18 with (go_at_call 14; (with_reducible refine HC1.out.mono ?_); rintro e w5 ⟨rfl, rfl⟩)
                  go_upto_region 16 with (first
                    | (go_at_call 16; (with_reducible refine HMM.out.mono ?_); rintro e w8 ⟨rfl, hw8, hk8⟩)
                    | (go_at_call 14; (with_reducible refine (HC2.out _ hw8).mono ?_); rintro e w9 ⟨rfl, rfl⟩))
                  have HW8 := Lib.hid hw8
                  have HB8 : Hid (Below w.heap.size w w8) := Lib.hid (kb2 (bel_trans hb3.out (bel_alloc _ _)) hk8 HNE.out.1 HNE.out.2)
                  clear hw8 hk8 HMM HC1 HC2 hw hb3
                  go_wp2
                  refine ⟨⟨i + 1, by go_num, by omega, by omega, HB8, .inr ⟨by omega, (c + 1), (k + 1 - c), by omega, by omega, by omega, by omega, Lib.hid (by rw [show ((i + 1 : Nat) : Int) = (i : Int) + 1 by omega]; exact HW8.out)⟩⟩, ?_⟩
                  simp [intOf]; omega
            · by_cases hm : i < ml
              · have hd1 : decide ((i : Int) < (ml : Int)) = true := decide_eq_true (by omega)
                have hd2 : decide ((i : Int) < 5) = false := decide_eq_false (by omega)
                go_wp2
                go_ret
                exact ⟨rfl, hb3.out⟩
              · have hd1 : decide ((i : Int) < (ml : Int)) = false := decide_eq_false (by omega)
                go_wp2
                go_ret
                exact ⟨rfl, hb3.out⟩
end Go.Proofs.YtjbgbdiogfdokaaGreatDoor
