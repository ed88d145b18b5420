/-
  Package tfrc: the first time that something is heard, without loss, nothing limited.
-/
import Derived.Test.YtbiglbclifbmhaaGreatDoorTfM
namespace Go.Proofs.YtbiglbclifbmhaaGreatDoor
open Go.ChangeShapes Go.WideShapes Go.ChangeAt Go.RowKit
set_option linter.unusedVariables false
set_option linter.unusedSimpArgs false

theorem M.tfInit_bd (size R : Nat) (h : size ≤ 1400) : M.tfInit size R < 18446744073709551616 := by
  have h1 : 64 * min (4 * size) (max (2 * size) 4380) ≤ 358400 := by
    have : min (4 * size) (max (2 * size) 4380) ≤ 4 * size := Nat.min_le_left _ _
    generalize min (4 * size) (max (2 * size) 4380) = z at *
    omega
  exact Nat.lt_of_le_of_lt (Nat.le_trans (Nat.div_le_self _ _) (Nat.mul_le_mul_right 1000000 h1)) (by decide)
def TfS.first0 (s : TfS) (N : Int) (R : Nat) : TfS := { s with rate := max (M.tfInit s.size R) s.size, rtt := R, loss := 0, doubled := N }
set_option maxHeartbeats 4000000 in
set_option maxRecDepth 100000 in
theorem tfHear_first0 (s : TfS) (hs : s.ok) (hr : s.rtt = 0) (now sample : Int) (x : Nat) (hx : x < 18446744073709551616) (N : Int) (hN : max 0 (min now 4611686018427387904) = N) (R : Nat) (hR : max 1 (min sample 4294967296) = (R : Int))
    (l : List Pr) (hl : l.length ≤ 7) (h0 : 0 < l.length) (hsm : ∀ p ∈ l, p.2 < 18446744073709551616) (hlast : (l.getD (l.length - 1) (0, 0)).1 ≤ N) (hall : ∀ i, i < l.length → N - 2 * R ≤ (l.getD i (0, 0)).1) (C P : Nat) (v : Value) (w : World) (h : TfAt s l C P v w) :
    Calls Tryz.prog 29 #[.pointer (some ⟨C, 0, none⟩), .int .i64 now, .int .i64 sample, .int .u64 x, .int .u64 0, .bool false] w fun e w' => e = .returned (.tuple #[]) ∧
      ∃ v', TfAt ((s.first0 N R).run (M.tfDue (M.tfWait (s.first0 N R)) N)) (l ++ [(N, min x 1125899906842624)]) C P v' w' ∧ Kept (C :: P :: own v) w w' ∧ (v'.ownBlock = v.ownBlock ∨ ∃ g, v'.ownBlock = some g ∧ w.heap.size ≤ g) := by
  have HM := Lib.hid (tfMade_any s hs l C P v w h)
  have HW1 := Lib.hid (fun W => tfWithin_any now 0 4611686018427387904 W)
  have HW2 := Lib.hid (fun W => tfWithin_any sample 1 4294967296 W)
  rw [hN] at HW1
  rw [hR] at HW2
  have hNb : 0 ≤ N ∧ N ≤ 4611686018427387904 := by omega
  have hRb : 1 ≤ R ∧ R ≤ 4294967296 := by omega
  obtain ⟨b1, b2⟩ := hs.b0
  obtain ⟨X, hX⟩ : ∃ X, min x 1125899906842624 = X := ⟨_, rfl⟩
  have hXb : X < 18446744073709551616 := by rw [← hX]; exact Nat.lt_of_le_of_lt (Nat.min_le_left _ _) hx
  obtain ⟨x1, x2, x3, _⟩ := mns x 1125899906842624 X hX
  have x1' : (if (1125899906842624 : Int) < (x : Int) then 1125899906842624 else (x : Int)) = (X : Int) := x1
  have x2' : (if 1125899906842624 < x then 1125899906842624 else (x : Int)) = (X : Int) := x2
  have x3' : min (x : Int) 1125899906842624 = (X : Int) := x3
  rw [hX]
  have m0 : min (0 : Int) 4294967296 = 0 := by decide
  have c2 : w.cell? ⟨C, 2, none⟩ = some (.int .i64 0) := by rw [← hr]; exact BlkIs.cell h.tf 2
  have f2 := BlkIs.free h.tf 2
  -- the rate at the first Hear
  have hkA : Hid (Kept [C] w (w.setCell ⟨C, 2, none⟩ (.int .i64 R))) := Lib.hid ((Kept.refl _ _).setCell (.inl (by simp)) _)
  have HA : Hid (TfAt { s with rtt := R } l C P v (w.setCell ⟨C, 2, none⟩ (.int .i64 R))) := Lib.hid ⟨BlkIs.set h.tf 2 _, h.set.kept hkA.out (by simp; exact fun e => h.ne e.symm) (fun g hg => by simp; exact h.ne2 g hg), h.ne, h.ne2⟩
  have hokA : ({ s with rtt := R } : TfS).ok := ⟨hs.b0, hs.b1, by simp only; omega, hs.b3, hs.b4⟩
  have HIN := Lib.hid (tfInitial_any { s with rtt := R } hokA (by simp only; omega) R rfl l C P v _ HA.out)
  have hIb := M.tfInit_bd s.size R b2
  obtain ⟨I, hI⟩ : ∃ I, M.tfInit s.size R = I := ⟨_, rfl⟩
  simp only at HIN
  rw [hI] at HIN hIb
  have HNC : Hid (C ∉ P :: own v) := Lib.hid (by
    intro hm
    rcases List.mem_cons.1 hm with h1 | h1
    · exact h.ne h1
    · unfold own at h1
      cases hv : v.ownBlock with
      | none => rw [hv] at h1; simp at h1
      | some g => rw [hv] at h1; simp at h1; exact h.ne2 g hv h1.symm)
  have HNE : Hid (∀ v' : Value, (v'.ownBlock = v.ownBlock ∨ ∃ g, v'.ownBlock = some g ∧ w.heap.size ≤ g) → ∀ g, v'.ownBlock = some g → g ≠ C) := Lib.hid (fun v' hv' g hg => by
    rcases hv' with h1 | ⟨q, h1, h2⟩
    · exact h.ne2 g (by rw [← h1]; exact hg)
    · rw [h1] at hg; cases hg; have := h.tf.lt; omega)
  have HCP := Lib.hid h.ne
  have HST := Lib.hid hs
  clear h hs hr
  go_enter Tryz.func29, Tryz.ntmps29
  go_upto_region 5 with (first
    | (go_at_call 62; (with_reducible refine HM.out.mono ?_); rintro e w1 ⟨rfl, rfl⟩)
    | (go_at_call 64; (with_reducible refine (HW1.out _).mono ?_); rintro e w1 ⟨rfl, rfl⟩)
    | (go_at_call 64; (with_reducible refine (HW2.out _).mono ?_); rintro e w1 ⟨rfl, rfl⟩))
  generalize w.setCell ⟨C, 2, none⟩ (.int .i64 R) = W1 at *
  have d1 : ∀ n, (W1.drewN n).cell? ⟨C, 1, none⟩ = some (.int .u64 s.rate) := fun n => BlkIs.cell HA.out.tf 1
  have d5 : ∀ n, (W1.drewN n).cell? ⟨C, 5, none⟩ = some (.int .i64 s.doubled) := fun n => BlkIs.cell HA.out.tf 5
  have e1 : ∀ n, (W1.drewN n).frozen? ⟨C, 1, none⟩ = false := fun n => BlkIs.free HA.out.tf 1
  have e5 : ∀ n, (W1.drewN n).frozen? ⟨C, 5, none⟩ = false := fun n => BlkIs.free HA.out.tf 5
  clear c2 f2 HW1 HW2 HM
  go_upto_region 7 with (go_at_call 65; (with_reducible refine HIN.out.mono ?_); rintro e w1 ⟨rfl, n1, rfl⟩)
  obtain ⟨W2, hW2⟩ : ∃ W2, ((W1.drewN n1).setCell ⟨C, 1, none⟩ (.int .u64 I)).setCell ⟨C, 5, none⟩ (.int .i64 N) = W2 := ⟨_, rfl⟩
  have hkB : Hid (Kept [C] w W2) := Lib.hid (by rw [← hW2]; exact ((hkA.out.drewN n1).setCell (.inl (by simp)) _).setCell (.inl (by simp)) _)
  have HB : Hid (TfAt { s with rtt := R, rate := I, doubled := N } l C P v W2) := Lib.hid (by
    rw [← hW2]
    have hk : Kept [C] W1 (((W1.drewN n1).setCell ⟨C, 1, none⟩ (.int .u64 I)).setCell ⟨C, 5, none⟩ (.int .i64 N)) := (((Kept.refl _ _).drewN n1).setCell (.inl (by simp)) _).setCell (.inl (by simp)) _
    exact ⟨BlkIs.set (BlkIs.set (BlkIs.drewN HA.out.tf n1) 1 _) 5 _, HA.out.set.kept hk (by simp; exact fun e => HCP.out e.symm) (fun g hg => by simp; exact HA.out.ne2 g hg), HA.out.ne, HA.out.ne2⟩)
  have HLIM := Lib.hid (tfLimit_upd { s with rtt := R, rate := I, doubled := N } ⟨HST.out.b0, hIb, by simp only; omega, HST.out.b3, by simp only; omega⟩ l hl h0 hsm N X 0 hXb (by rw [show max 0 (min N 4611686018427387904) = N by omega]; exact hlast) (by
    rw [show max 0 (min N 4611686018427387904) = N by omega]
    intro i hi
    have := hall i hi
    simp only
    rw [show max 0 (min (R : Int) 1099511627776) = (R : Int) by omega]
    exact this) C P v W2 HB.out)
  rw [show max 0 (min N 4611686018427387904) = N by omega] at HLIM
  rw [hW2]
  generalize M.mulT 2 (M.maxPr (l ++ [(N, X)])) = LIM at *
  have HLIM2 := Lib.hid (show Calls Tryz.prog 66 #[.pointer (some ⟨C, 0, none⟩), .int .i64 N, .int .u64 X, .int .u64 0, .bool false] W2 _ from HLIM.out)
  clear hW2 d1 d5 e1 e5 HIN hlast hall HA
  go_upto_region 8 with (go_at_call 66; (with_reducible refine HLIM2.out.mono ?_); rintro e W3 ⟨rfl, v3, ht3, hk3, hv3⟩)
  have HV3 : Hid (v3.ownBlock = v.ownBlock ∨ ∃ g, v3.ownBlock = some g ∧ w.heap.size ≤ g) := Lib.hid (by
    rcases hv3 with h1 | ⟨g, h1, h2⟩
    · exact .inl h1
    · exact .inr ⟨g, h1, Nat.le_trans hkB.out.size h2⟩)
  have hkC : Hid (Kept (C :: P :: own v) w W3) := Lib.hid ((hkB.out.more (fun x hx => by simp at hx; subst hx; simp)).trans' (hk3.more (fun x hx => by simp; right; simpa using hx)))
  have HT3 := Lib.hid ht3
  have g3 : W3.cell? ⟨C, 3, none⟩ = some (.int .u64 s.loss) := BlkIs.cell ht3.tf 3
  have k3 := BlkIs.free ht3.tf 3
  clear ht3 hk3 hv3 HLIM HLIM2
  go_upto_region 11 with fail
  obtain ⟨W4, hW4⟩ : ∃ W4, W3.setCell ⟨C, 3, none⟩ (.int .u64 0) = W4 := ⟨_, rfl⟩
  have hk34 : Kept [C] W3 W4 := by rw [← hW4]; exact (Kept.refl _ _).setCell (.inl (by simp)) _
  have HD : Hid (TfAt { s with rtt := R, rate := I, doubled := N, loss := 0 } (l ++ [(N, X)]) C P v3 W4) := Lib.hid (by
    refine ⟨?_, HT3.out.set.kept hk34 (by simp; exact fun e => HCP.out e.symm) (fun g hg => by simp; exact HT3.out.ne2 g hg), HT3.out.ne, HT3.out.ne2⟩
    rw [← hW4]
    exact BlkIs.set HT3.out.tf 3 _)
  have hkD : Hid (Kept (C :: P :: own v) w W4) := Lib.hid (hkC.out.trans' (hk34.more (fun x hx => by simp at hx; subst hx; simp)))
  rw [hW4]
  clear hW4 hk34 g3 k3
  have q2 : W4.cell? ⟨C, 2, none⟩ = some (.int .i64 R) := BlkIs.cell HD.out.tf 2
  have q5 : W4.cell? ⟨C, 5, none⟩ = some (.int .i64 N) := BlkIs.cell HD.out.tf 5
  have hw1 : IntKind.i64.wrap (N - N) = 0 := by rw [Int.sub_self]; rfl
  have hz0 : N - N = 0 := Int.sub_self N
  have hdec : decide ((R : Int) ≤ 0) = false := decide_eq_false (by omega)
  go_quiet (fail)
  have HE : Hid (TfAt { s with rtt := R, rate := I, doubled := N, loss := 0 } (l ++ [(N, X)]) C P v3 (W4.drewN nq)) := Lib.hid (HD.out.drewN nq)
  have hkE : Hid (Kept (C :: P :: own v) w (W4.drewN nq)) := Lib.hid (hkD.out.drewN nq)
  clear q2 q5 hw1 hz0
  generalize W4.drewN nq = W5 at *
  have q0 : W5.cell? ⟨C, 0, none⟩ = some (.int .u64 s.size) := BlkIs.cell HE.out.tf 0
  have q1 : W5.cell? ⟨C, 1, none⟩ = some (.int .u64 I) := BlkIs.cell HE.out.tf 1
  have k1 := BlkIs.free HE.out.tf 1
  obtain ⟨J, hJ⟩ : ∃ J, max I s.size = J := ⟨_, rfl⟩
  obtain ⟨j1, j2, j3, _, j5, j6⟩ := mxs I s.size J hJ
  have HF : Hid (TfAt (s.first0 N R) (l ++ [(N, X)]) C P v3 ((W5.setCell ⟨C, 1, none⟩ (.int .u64 J)).drew) ∧ Kept (C :: P :: own v) w ((W5.setCell ⟨C, 1, none⟩ (.int .u64 J)).drew)) := Lib.hid (by
    have hk : Kept [C] W5 ((W5.setCell ⟨C, 1, none⟩ (.int .u64 J)).drew) := ((Kept.refl _ _).setCell (.inl (by simp)) _).drew
    refine ⟨⟨?_, HE.out.set.kept hk (by simp; exact fun e => HCP.out e.symm) (fun g hg => by simp; exact HE.out.ne2 g hg), HE.out.ne, HE.out.ne2⟩, hkE.out.trans' (hk.more (fun x hx => by simp at hx; subst hx; simp))⟩
    unfold TfS.first0
    rw [hI, hJ]
    exact BlkIs.set HE.out.tf 1 _)
  have HRUN := Lib.hid (tfRunOn_any (s.first0 N R) ⟨HST.out.b0, by unfold TfS.first0; simp only; rw [hI, hJ]; have := HST.out.b0; omega, by unfold TfS.first0; simp only; omega, by unfold TfS.first0; simp only; omega, by unfold TfS.first0; simp only; omega⟩ (by unfold TfS.first0; simp only; rw [hI, hJ]; exact j6) N (by omega) (l ++ [(N, X)]) C P v3 _ HF.out.1)
  clear hJ hI j5 j6
  go_wp2
  go_region_with (fail)
  all_goals
    go_wp2_with (go_at_call 68; (with_reducible refine HRUN.out.mono ?_); rintro e W7 ⟨rfl, ht7, hk7⟩)
    go_end0
    exact ⟨rfl, v3, ht7, HF.out.2.trans' (hk7.more (fun x hx => by simp at hx; subst hx; simp)), HV3.out⟩
end Go.Proofs.YtbiglbclifbmhaaGreatDoor
