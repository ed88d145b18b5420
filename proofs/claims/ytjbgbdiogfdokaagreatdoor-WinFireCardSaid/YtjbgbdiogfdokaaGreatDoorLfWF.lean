/-
  What the laid table of the weights says.
  The law WinFire, walked.
-/
import Derived.Test.YtjbgbdiogfdokaaGreatDoorIvalA
import Derived.Test.YtjbgbdiogfdokaaGreatDoorRows
import Derived.Lib.LaidU8
import Derived.Lib.LaidTab
import Derived.MakeChecks
import Derived.OpenShut
import Derived.Test.YtjbgbdiogfdokaaGreatDoorLfW1
import Derived.Test.YtjbgbdiogfdokaaGreatDoorBegun8
namespace Go.Proofs.YtjbgbdiogfdokaaGreatDoor
open Go.ChangeShapes Go.WideShapes Go.ChangeAt Go.RowKit
set_option linter.unusedVariables false
set_option linter.unusedSimpArgs false

theorem tabW_laid {W : World} {l : List (String × DataW Unit)} (h : laidMet Tryz.prog l W) (hm : ("muleteer/ival.weights", (Rows.laid_muleteer_ival_weights : DataW Unit)) ∈ l) : TabW W := by
  obtain ⟨ps, h, _⟩ := h
  obtain ⟨g, t, cs, fuel, p, hg, ht, hvar, hd⟩ := Lib.LaidVars_reads h _ _ hm
  rw [show (Rows.laid_muleteer_ival_weights : DataW Unit) = Lib.tabData .u64 [5, 5, 5, 5, 4, 3, 2, 1] by kernel_rfl] at hd
  have e : Tryz.prog.globalNamed "muleteer/ival.weights" = some 2 := by kernel_rfl
  obtain rfl := Option.some.inj (e.symm.trans hg)
  obtain rfl : t = 209 := (Option.some.inj ((show (Tryz.prog.globals[2]?).map (·.type) = some 209 by kernel_rfl).symm.trans ht)).symm
  have hc := Lib.cells_of_tab Tryz.underlying209 Tryz.underlying26 (by kernel_rfl) (by kernel_rfl) hd
  obtain ⟨cl⟩ := cs
  simp only at hc
  subst hc
  intro i hi
  have h1 := World.var?_cell e hvar i
  rw [h1]
  obtain rfl | rfl | rfl | rfl | rfl | rfl | rfl | rfl : i = 0 ∨ i = 1 ∨ i = 2 ∨ i = 3 ∨ i = 4 ∨ i = 5 ∨ i = 6 ∨ i = 7 := by omega
  all_goals rfl
end Go.Proofs.YtjbgbdiogfdokaaGreatDoor

namespace Go.Proofs.YtjbgbdiogfdokaaGreatDoor
open Go.ChangeShapes Go.WideShapes Go.ChangeAt Go.RowKit
set_option linter.unusedVariables false
set_option linter.unusedSimpArgs false

theorem kb2 {w W W' : World} {C D : Nat} (h : Below w.heap.size w W) (k : Kept [C, D] W W') (hC : w.heap.size ≤ C) (hD : w.heap.size ≤ D) : Below w.heap.size w W' := h.trans (k.below h.size (by intro x hx; simp at hx; omega))
theorem mod_at9 (x m : Int) (hm : 0 < m) : ∃ a, x.tmod m = a ∧ -m < a ∧ a < m ∧ ∃ j : Nat, (a + m).tmod m = (j : Int) ∧ (j : Int) < m := by
  refine ⟨x.tmod m, rfl, ?_⟩
  have h : -m < x.tmod m ∧ x.tmod m < m := by
    by_cases h : 0 ≤ x
    · rw [Int.tmod_eq_emod_of_nonneg h]
      have := Int.emod_nonneg x (show m ≠ 0 by omega)
      have := Int.emod_lt_of_pos x hm
      omega
    · have e : x.tmod m = -((-x).tmod m) := by rw [Int.neg_tmod]; omega
      rw [e, Int.tmod_eq_emod_of_nonneg (by omega)]
      have := Int.emod_nonneg (-x) (show m ≠ 0 by omega)
      have := Int.emod_lt_of_pos (-x) hm
      omega
  refine ⟨h.1, h.2, ((x.tmod m + m).tmod m).toNat, ?_, ?_⟩
  · have : 0 ≤ (x.tmod m + m).tmod m := Int.tmod_nonneg _ (by omega)
    omega
  · have h1 : 0 ≤ (x.tmod m + m).tmod m := Int.tmod_nonneg _ (by omega)
    have h2 : (x.tmod m + m).tmod m < m := by
      rw [Int.tmod_eq_emod_of_nonneg (by omega)]
      exact Int.emod_lt_of_pos _ hm
    omega
/-- Behind the first one that was got. -/
def WinS.four : WinS := ⟨4, 1000000, 0, 0, 1, true, 0, false, 0, false⟩
theorem winFirst (X : Int) (hX : 0 ≤ X) (pG : Option Addr) (cG : Nat) (C D : Nat) (w : World) (h : WinAt (WinS.init.sent 1 (M.winDue 0 RttS.zero.rto)) RttS.zero C D w) :
    Calls Tryz.prog 16 #[.pointer (some ⟨C, 0, none⟩), .agg #[.slice pG 1 cG, .slice none 0 0, .slice none 0 0, .int .i64 0, .int .i64 X], .int .i64 0] w fun e w' => e = .returned (.tuple #[]) ∧ WinAt WinS.four (RttS.zero.sample X) C D w' ∧ Kept [C, D] w w' := by
  have h1 := winHear_any (WinS.init.sent 1 (M.winDue 0 RttS.zero.rto)) ⟨4, 1000000, 0, 0, 1, true, 0, false, 3000000, true⟩ ⟨by decide, by decide, by decide, by decide, by decide, by decide⟩ RttS.zero (RttS.zero.sample X) RttS.ok_zero 1 0 (by decide) (by decide) ⟨by decide, by decide, by decide, by decide, by decide, by decide⟩ (by decide) rfl ⟨by decide, by decide, by decide, by decide, by decide, by decide⟩
    pG none cG 0 (.slice none 0 0) 0 X 0 (by decide) (by unfold RttS.heard; rw [if_pos hX]) false C D w h (.inl ⟨rfl, rfl, by decide⟩)
  exact h1
theorem winFire_ok (s : WinS) (hs : s.ok) : s.fire.ok := by
  obtain ⟨⟨a0, a1⟩, ⟨b0, b1⟩, _, _, e, f⟩ := hs
  exact ⟨(by decide : (1 : Int) ≤ 1 ∧ (1 : Int) ≤ 1099511627776), by unfold WinS.fire WinS.halve WinS.stop; simp only; omega, (by decide : (0 : Int) ≤ 0 ∧ (0 : Int) ≤ 1099511627776), (by decide : (0 : Int) ≤ 0 ∧ (0 : Int) ≤ 1099511627776), e, e⟩
set_option maxHeartbeats 16000000 in
set_option maxRecDepth 100000 in
theorem winFire_walk (n d : Int) (n1 : -9223372036854775808 ≤ n) (n2 : n ≤ 9223372036854775807) (d1 : -9223372036854775808 ≤ d) (d2 : d ≤ 9223372036854775807) (w : World) (hT : TabW w) :
    Calls Tryz.prog 5 #[.int .i64 n, .int .i64 d] w fun e w' => e = .returned (.bool true) ∧ Below w.heap.size w w' := by
  have HBG : Hid (∀ W, Below w.heap.size w W → Calls Tryz.prog 11 #[] W fun e w' => e = .returned (.bool true) ∧ Below W.heap.size W w') := Lib.hid (fun W hb => begun8_any W (hT.below hb))
  clear hT
  obtain ⟨a, ha, a1, a2, J, hJ, hJ3⟩ := mod_at9 n 12 (by decide)
  obtain ⟨X, hX⟩ : ∃ X, max 0 (min d 1099511627776) = X := ⟨_, rfl⟩
  have hX0 : 0 ≤ X ∧ X ≤ 1099511627776 := by omega
  obtain ⟨hX2, hX3⟩ := hX0
  have HS0 : Hid (∀ (C D : Nat) W, WinAt WinS.init RttS.zero C D W → Calls Tryz.prog 13 #[.pointer (some ⟨C, 0, none⟩), .int .u64 1, .int .i64 0] W fun e w' => e = .returned (.bool true) ∧ WinAt (WinS.init.sent 1 (M.winDue 0 RttS.zero.rto)) RttS.zero C D w' ∧ Kept [C] W w') := Lib.hid (fun C D W h => winSent_yes WinS.init WinS.ok_init (by decide) RttS.zero RttS.ok_zero 1 (by decide) 0 (by decide) C D W h)
  have HH0 := Lib.hid (fun (pG : Option Addr) (cG C D : Nat) W (h : WinAt (WinS.init.sent 1 (M.winDue 0 RttS.zero.rto)) RttS.zero C D W) => winFirst X hX2 pG cG C D W h)
  have HSM := Lib.hid (fun (C : Nat) W (h : RttBlk RttS.zero C W) => rttSample_any RttS.zero RttS.ok_zero X C W h)
  have htok : (RttS.zero.sample X).ok := RttS.ok_zero.sample X
  have HRT := Lib.hid (fun (C : Nat) W (h : RttBlk (RttS.zero.sample X) C W) => rttRto_any (RttS.zero.sample X) htok C W h)
  have hr0 := htok.rto
  generalize RttS.zero.sample X = t0 at *
  obtain ⟨R, hR⟩ : ∃ R, t0.rto = R := ⟨_, rfl⟩
  rw [hR] at HRT hr0
  obtain ⟨r0, r1⟩ := hr0
  go_enter Tryz.func5, Tryz.ntmps5
  go_upto_region 6 with (first
    | (go_at_call 11; refine (HBG.out _ (Below.refl _ _)).mono ?_; rintro e w0 ⟨rfl, hb0⟩)
    | (go_at_call 12; refine (winNew_any _).mono ?_; rintro e w1 ⟨C, D, rfl, hwin, hc1, hd1, hb1⟩))
  have hbx := BlkIs.new #[.slice none 0 0, .slice none 0 0, .slice none 0 0, .int .i64 0, .int .i64 X] 31 w1
  have HW2 : Hid (WinAt WinS.init RttS.zero C D (w1.alloc (.cells #[.slice none 0 0, .slice none 0 0, .slice none 0 0, .int .i64 0, .int .i64 X] 31))) := Lib.hid (hwin.below (bel_alloc _ _))
  have HB2 : Hid (Below w.heap.size w (w1.alloc (.cells #[.slice none 0 0, .slice none 0 0, .slice none 0 0, .int .i64 0, .int .i64 X] 31))) := Lib.hid (bel_trans (bel_trans hb0 hb1) (bel_alloc _ _))
  have HNE : Hid (w.heap.size ≤ C ∧ w.heap.size ≤ D ∧ C < w1.heap.size ∧ D < w1.heap.size) := Lib.hid ⟨Nat.le_trans hb0.size hc1, Nat.le_trans hb0.size hd1, hwin.win.lt, BlkIs.lt hwin.rtt⟩
  have HBX := Lib.hid hbx
  clear hwin hc1 hd1 hb0 hb1 hbx
  generalize w1.alloc (.cells #[.slice none 0 0, .slice none 0 0, .slice none 0 0, .int .i64 0, .int .i64 X] 31) = w2 at *
  generalize w1.heap.size = B at *
  go_upto_region 8 with (go_at_call 13; (with_reducible refine (HS0.out C D w2 HW2.out).mono ?_); rintro e w3 ⟨rfl, hw3, hk3⟩; have k3 : BlkIs #[.slice none 0 0, .slice none 0 0, .slice none 0 0, .int .i64 0, .int .i64 X] 31 B w3 := BlkIs.kept HBX.out hk3 (by have := HNE.out; simp; omega); have e0 : (w3.alloc (.cells #[.int .u64 1] 26)).cell? ⟨B, 0, none⟩ = some (.slice none 0 0) := BlkIs.cell (k3.alloc _) 0; have ef := BlkIs.free (k3.alloc (.cells #[.int .u64 1] 26)) 0)
  have hBC : B ≠ C := by have := HNE.out; omega
  have hBD : B ≠ D := by have := HNE.out; omega
  have hCB : C < w3.heap.size := hw3.win.lt
  have k4 := (k3.alloc (.cells #[.int .u64 1] 26)).set 0 (.slice (some ⟨w3.heap.size, 0, none⟩) 1 1)
  have HW4 : Hid (WinAt (WinS.init.sent 1 (M.winDue 0 RttS.zero.rto)) RttS.zero C D ((w3.alloc (.cells #[.int .u64 1] 26)).setCell ⟨B, 0, none⟩ (.slice (some ⟨w3.heap.size, 0, none⟩) 1 1))) := Lib.hid (by
    have h1 := hw3.below (bel_alloc w3 (.cells #[.int .u64 1] 26))
    exact ⟨BlkIs.far h1.win hBC.symm _, BlkIs.far h1.rtt hBD.symm _, h1.ne⟩)
  have HB4 : Hid (Below w.heap.size w ((w3.alloc (.cells #[.int .u64 1] 26)).setCell ⟨B, 0, none⟩ (.slice (some ⟨w3.heap.size, 0, none⟩) 1 1))) := Lib.hid ((bel_trans (kb2 HB2.out (hk3.more (by simp)) HNE.out.1 HNE.out.2.1) (bel_alloc _ _)).setCell (p := ⟨B, 0, none⟩) (by have := HNE.out; simp; omega) _)
  clear e0 ef hw3 hk3 k3 HW2 HB2 HBX
  generalize (w3.alloc (.cells #[.int .u64 1] 26)).setCell ⟨B, 0, none⟩ (.slice (some ⟨w3.heap.size, 0, none⟩) 1 1) = w4 at *
  generalize w3.heap.size = Rb at *
  have x0 : w4.cell? ⟨B, 0, none⟩ = some (.slice (some ⟨Rb, 0, none⟩) 1 1) := BlkIs.cell k4 0
  have x1 : w4.cell? ⟨B, 1, none⟩ = some (.slice none 0 0) := BlkIs.cell k4 1
  have x2 : w4.cell? ⟨B, 2, none⟩ = some (.slice none 0 0) := BlkIs.cell k4 2
  have x3 : w4.cell? ⟨B, 3, none⟩ = some (.int .i64 0) := BlkIs.cell k4 3
  have x4 : w4.cell? ⟨B, 4, none⟩ = some (.int .i64 X) := BlkIs.cell k4 4
  go_upto_region 10 with (first
    | (go_at_call 16; (with_reducible refine (HH0.out (some ⟨Rb, 0, none⟩) 1 C D w4 HW4.out).mono ?_); rintro e w5 ⟨rfl, hw5, hk5⟩)
    | (go_at_call 20; refine (rttNew_any _).mono ?_; rintro e w6 ⟨rfl, rfl⟩))
  have k5 := BlkIs.kept k4 hk5 (by simp; omega)
  have HR6 : Hid (RttBlk RttS.zero w5.heap.size (w5.alloc (.cells (rttCells RttS.zero) 86))) := Lib.hid (BlkIs.new _ _ _)
  have HW6 : Hid (WinAt WinS.four t0 C D (w5.alloc (.cells (rttCells RttS.zero) 86))) := Lib.hid (hw5.below (bel_alloc _ _))
  have hx4 : (w5.alloc (.cells (rttCells RttS.zero) 86)).cell? ⟨B, 4, none⟩ = some (.int .i64 X) := BlkIs.cell (k5.alloc _) 4
  have HB6 : Hid (Below w.heap.size w (w5.alloc (.cells (rttCells RttS.zero) 86))) := Lib.hid (bel_trans (kb2 HB4.out hk5 HNE.out.1 HNE.out.2.1) (bel_alloc _ _))
  have HE : Hid (C < w5.heap.size ∧ D < w5.heap.size ∧ w.heap.size ≤ w5.heap.size) := Lib.hid ⟨hw5.win.lt, BlkIs.lt hw5.rtt, (kb2 HB4.out hk5 HNE.out.1 HNE.out.2.1).size⟩
  clear x0 x1 x2 x3 x4 hw5 hk5 k4 k5 HW4 HB4
  generalize w5.alloc (.cells (rttCells RttS.zero) 86) = w6 at *
  generalize w5.heap.size = E at *
  go_upto_region 12 with (first
    | (go_at_call 21; (with_reducible refine (HSM.out E w6 HR6.out).mono ?_); rintro e w7 ⟨rfl, hr7, hk7⟩)
    | (go_at_call 22; (with_reducible refine (HRT.out E w7 hr7).mono ?_); rintro e w8 ⟨rfl, q8, rfl⟩))
  have HW7 : Hid (WinAt WinS.four t0 C D (w7.drewN q8)) := Lib.hid ((HW6.out.kept hk7 (by have := HE.out; simp; omega) (by have := HE.out; simp; omega)).drewN q8)
  have HB7 : Hid (Below w.heap.size w (w7.drewN q8)) := Lib.hid (bel_trans (HB6.out.trans (hk7.below HB6.out.size (by intro x hx; have := HE.out; simp at hx; omega))) (bel_drewN _ _))
  clear hr7 hk7 hx4 HW6 HB6 HR6 HSM HRT HH0 HS0
  generalize w7.drewN q8 = w7' at *
  have HT0 : Hid (t0.ok ∧ t0.rto = R) := Lib.hid ⟨htok, hR⟩
  clear hX htok hR
  go_wp2
  go_loopw [9, 10, 11] (fun nw wt i wr => ∃ (k : Nat) (s : WinS) (t : RttS) (T Q : Int), i = .int .i64 (k : Int) ∧ nw = .int .i64 T ∧ wt = .int .i64 Q ∧ k ≤ 1 + J ∧ (0 ≤ T ∧ T ≤ 64000000 * (k : Int)) ∧ (200000 ≤ Q ∧ Q ≤ 64000000) ∧ Hid (s.ok ∧ t.ok ∧ t.rto = Q ∧ s.pipe = 0 ∧ s.runs = false) ∧ Hid (WinAt s t C D wr) ∧ Hid (Below w.heap.size w wr)) (fun _ _ i _ => 1 + J - (intOf i).toNat)
  case atStart => exact ⟨0, WinS.four, t0, 0, R, rfl, rfl, rfl, Nat.zero_le _, ⟨by decide, by decide⟩, ⟨r0, r1⟩, Lib.hid ⟨⟨by decide, by decide, by decide, by decide, by decide, by decide⟩, HT0.out.1, HT0.out.2, rfl, rfl⟩, HW7, HB7⟩
  case round =>
    obtain ⟨k, s, t, T, Q, rfl, rfl, rfl, hk, ⟨u1, u2⟩, ⟨q1, q2⟩, hs, hw, hb⟩ := hrel
    by_cases hkJ : k < 1 + J
    · obtain ⟨so, tok, hto, hpipe, hruns⟩ := hs.out
      have hdue : M.winDue T t.rto = T + Q := by unfold M.winDue; rw [hto]; omega
      obtain ⟨z, hz⟩ : ∃ z, s.sent (2 + k) (T + Q) = z := ⟨_, rfl⟩
      have hz2 : z = { s with pipe := s.pipe + 1, ln := 2 + k, lk := true, due := T + Q, runs := true } := by rw [← hz]; unfold WinS.sent; rw [if_neg (by simp [hruns])]
      have HS : Hid (Calls Tryz.prog 13 #[.pointer (some ⟨C, 0, none⟩), .int .u64 (2 + (k : Int)), .int .i64 T] wr fun e w' => e = .returned (.bool true) ∧ WinAt z t C D w' ∧ Kept [C] wr w') := Lib.hid (by
        have h1 := winSent_yes s so (by rw [hpipe]; have := so.b0; omega) t tok (2 + k) (by omega) T (by omega) C D wr hw.out
        rw [hdue, hz] at h1
        rw [show ((2 + k : Nat) : Int) = 2 + (k : Int) by omega] at h1
        exact h1)
      have zo : z.ok := by
        obtain ⟨g0, g1, g2, g3, g4, g5⟩ := so
        rw [hz2]
        exact ⟨g0, g1, by simp only; rw [hpipe]; decide, g3, by simp only; omega, g5⟩
      have HD : Hid (∀ W, WinAt z t C D W → Calls Tryz.prog 23 #[.pointer (some ⟨C, 0, none⟩)] W fun e w' => e = .returned (.tuple #[.int .i64 (T + Q), .bool true]) ∧ ∃ n, w' = W.drewN n) := Lib.hid (fun W hW => by
        have h1 := winDue_any z t C D W hW
        rw [show z.due = T + Q by rw [hz2], show z.runs = true by rw [hz2]] at h1
        exact h1)
      have HF1 : Hid (∀ W, WinAt z t C D W → Calls Tryz.prog 24 #[.pointer (some ⟨C, 0, none⟩), .int .i64 (T + Q - 1)] W fun e w' => e = .returned (.bool false) ∧ ∃ n, w' = W.drewN n) := Lib.hid (fun W hW => winFire_no z t (T + Q - 1) (.inr (by rw [hz2]; simp only; omega)) C D W hW)
      have HF2 : Hid (∀ W, WinAt z t C D W → Calls Tryz.prog 24 #[.pointer (some ⟨C, 0, none⟩), .int .i64 (T + Q)] W fun e w' => e = .returned (.bool true) ∧ WinAt z.fire t.back C D w' ∧ Kept [C, D] W w') := Lib.hid (fun W hW => winFire_yes z zo t tok (T + Q) (by omega) (by rw [hz2]) (by rw [hz2]; simp only; omega) C D W hW)
      have HCW : Hid (∀ W, WinAt z.fire t.back C D W → Calls Tryz.prog 14 #[.pointer (some ⟨C, 0, none⟩)] W fun e w' => e = .returned (.int .i64 1) ∧ W = w') := Lib.hid (fun W hW => by
        have h1 := winCwnd_any z.fire t.back C D W hW
        rw [show z.fire.cwnd = 1 from rfl] at h1
        exact h1)
      have HPI : Hid (∀ W, WinAt z.fire t.back C D W → Calls Tryz.prog 17 #[.pointer (some ⟨C, 0, none⟩)] W fun e w' => e = .returned (.int .i64 0) ∧ W = w') := Lib.hid (fun W hW => by
        have h1 := winPipe_any z.fire t.back C D W hW
        rw [show z.fire.pipe = 0 from rfl] at h1
        exact h1)
      have HN : Hid (z.fire.ok ∧ t.back.ok ∧ t.back.rto = min (2 * Q) 64000000 ∧ z.fire.pipe = 0 ∧ z.fire.runs = false) := Lib.hid ⟨winFire_ok z zo, tok.back, by rw [RttS.rto_back tok, hto]; rfl, rfl, rfl⟩
      have hdk : decide ((k : Int) < 1 + (J : Int)) = true := decide_eq_true (by omega)
      clear hz hz2 zo so tok hto hpipe hruns hdue hs
      go_upto_region 17 with (go_at_call 13; (with_reducible refine HS.out.mono ?_); rintro e w8 ⟨rfl, h8, k8⟩)
      go_upto_region 18 with (go_at_call 23; (with_reducible refine (HD.out _ h8).mono ?_); rintro e wd ⟨rfl, j1, rfl⟩)
      have h9 := h8.drewN j1
      have hb9 : Below w.heap.size w (w8.drewN j1) := bel_trans (kb2 hb.out (k8.more (by simp)) HNE.out.1 HNE.out.2.1) (bel_drewN _ _)
      clear h8 k8 hw hb HS HD
      generalize w8.drewN j1 = w9 at *
      have HF3 : Hid (Calls Tryz.prog 24 #[.pointer (some ⟨C, 0, none⟩), .int .i64 (T + Q - 1)] w9 fun e w' => e = .returned (.bool false) ∧ ∃ n, w' = w9.drewN n) := Lib.hid (HF1.out _ h9)
      have HF4 : Hid (∀ n, Calls Tryz.prog 24 #[.pointer (some ⟨C, 0, none⟩), .int .i64 (T + Q)] (w9.drewN n) fun e w' => e = .returned (.bool true) ∧ WinAt z.fire t.back C D w' ∧ Kept [C, D] (w9.drewN n) w') := Lib.hid (fun n => HF2.out _ (h9.drewN n))
      clear HF1 HF2 h9
      go_upto_region 20 with (first
        | (go_at_call 24; (with_reducible refine HF3.out.mono ?_); rintro e wf ⟨rfl, j2, rfl⟩; clear HF3)
        | (go_at_call 24; (with_reducible refine (HF4.out _).mono ?_); rintro e wi ⟨rfl, h11, k11⟩; clear HF4)
        | (go_at_call 14; (with_reducible refine (HCW.out _ h11).mono ?_); rintro e wg ⟨rfl, rfl⟩)
        | (go_at_call 17; (with_reducible refine (HPI.out _ h11).mono ?_); rintro e wg ⟨rfl, rfl⟩))
      have HB9 : Hid (Below w.heap.size w wi) := Lib.hid (kb2 (bel_trans hb9 (bel_drewN w9 j2)) k11 HNE.out.1 HNE.out.2.1)
      have HWI := Lib.hid h11
      clear h11 k11 hb9 HCW HPI
      go_wp2
      refine ⟨⟨k + 1, z.fire, t.back, T + Q, min (2 * Q) 64000000, by go_num, rfl, rfl, by omega, ⟨by omega, by omega⟩, ⟨by omega, by omega⟩, HN, HWI, HB9⟩, ?_⟩
      simp [intOf]; omega
    · have hdk : decide ((k : Int) < 1 + (J : Int)) = false := decide_eq_false (by omega)
      go_wp2
      go_ret
      exact ⟨rfl, hb.out⟩
end Go.Proofs.YtjbgbdiogfdokaaGreatDoor
