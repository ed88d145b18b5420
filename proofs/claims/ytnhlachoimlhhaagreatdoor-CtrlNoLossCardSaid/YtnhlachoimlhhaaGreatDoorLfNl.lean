/-
  Package tfrc: what they let the rate be who were limited.
  Package tfrc: Hear: the first one or a later one; with loss, doubling, or neither.
  Package tfrc: Hear: a later one; with loss, doubling, or neither.
  Package tfrc: the first time that something is heard, whatever it is.
  Package rset: an Update of which the one that was there is too old.
  Package rset: an Update of which the first one of two that were there is too old.
  Package rset: an Update of which the first one of two that were there is too old; tfrc's limit by it.
  Package tfrc: the first Hear, whatever it tells.
  Package tfrc: Hear without loss, again and again at one time's distance.
  Package tfrc: Hear without loss, again and again: what each makes of the rate.
  Package tfrc: Fire, nothing heard yet.
  The law CtrlFire, walked (its opening handed in): a window.
  The law CtrlNoLoss, walked (its opening handed in): a rate.
  The law CtrlNoLoss, walked (its opening handed in): a window; both.
-/
import Derived.Test.YtnhlachoimlhhaaGreatDoorTfV
import Derived.Lib.SliceRun
import Derived.Test.YtnhlachoimlhhaaGreatDoorCtW
import Derived.Test.YtnhlachoimlhhaaGreatDoorMatW
namespace Go.Proofs.YtnhlachoimlhhaaGreatDoor
open Go.ChangeShapes Go.WideShapes Go.ChangeAt Go.RowKit
set_option linter.unusedVariables false
set_option linter.unusedSimpArgs false

end Go.Proofs.YtnhlachoimlhhaaGreatDoor

namespace Go.Proofs.YtnhlachoimlhhaaGreatDoor
open Go.ChangeShapes Go.WideShapes Go.ChangeAt Go.RowKit
set_option linter.unusedVariables false
set_option linter.unusedSimpArgs false

/-- What limit does, of a rate as it stands. -/
def LimIs (s1 : TfS) (l : List Pr) (C P : Nat) (v : Value) (N : Int) (X p : Nat) (lim : Bool) (LIM : Nat) (l' : List Pr) : Prop :=
  ∀ W, TfAt s1 l C P v W → Calls Tryz.prog 177 #[.pointer (some ⟨C, 0, none⟩), .int .i64 N, .int .u64 X, .int .u64 p, .bool lim] W fun e w' => e = .returned (.int .u64 LIM) ∧ ∃ v', TfAt s1 l' C P v' w' ∧ Kept (P :: own v) W w' ∧ (v'.ownBlock = v.ownBlock ∨ ∃ g, v'.ownBlock = some g ∧ W.heap.size ≤ g)
theorem TfAt.put {s s' : TfS} {l : List Pr} {C P i : Nat} {v u : Value} {w : World} (h : TfAt s l C P v w) (e : (tfCells s P).setIfInBounds i u = tfCells s' P) : TfAt s' l C P v (w.setCell ⟨C, i, none⟩ u) := by
  have hk : Kept [C] w (w.setCell ⟨C, i, none⟩ u) := (Kept.refl _ _).setCell (.inl (by simp)) _
  refine ⟨?_, h.set.kept hk (by simp; exact fun e => h.ne e.symm) (fun g hg => by simp; exact h.ne2 g hg), h.ne, h.ne2⟩
  have h1 := BlkIs.set h.tf i u
  rw [e] at h1
  exact h1
set_option maxHeartbeats 8000000 in
set_option maxRecDepth 100000 in
theorem tfHear_first_none (s : TfS) (hs : s.ok) (now sample : Int) (x : Nat) (hx : x < 18446744073709551616) (N : Int) (hN : max 0 (min now 4611686018427387904) = N) (R : Nat) (hR : max 1 (min sample 4294967296) = (R : Int)) (hr : s.rtt = 0) (X : Nat) (hX : min x 1125899906842624 = X) (hdb : N - N < (R : Int)) (lim : Bool)
    (l l' : List Pr) (LIM : Nat) (hLIM : LIM < 18446744073709551616) (C P : Nat) (v : Value) (w : World) (h : TfAt s l C P v w) (hl : LimIs ({ s with rtt := R, rate := M.tfInit s.size R, doubled := N } : TfS) l C P v N X 0 lim LIM l') :
    Calls Tryz.prog 141 #[.pointer (some ⟨C, 0, none⟩), .int .i64 now, .int .i64 sample, .int .u64 x, .int .u64 0, .bool lim] w fun e w' => e = .returned (.tuple #[]) ∧
      ∃ v', TfAt (({ ({ s with rtt := R, rate := M.tfInit s.size R, doubled := N } : TfS) with loss := 0, rate := max (M.tfInit s.size R) s.size } : TfS).run (M.tfDue (M.tfWait ({ ({ s with rtt := R, rate := M.tfInit s.size R, doubled := N } : TfS) with loss := 0, rate := max (M.tfInit s.size R) s.size } : TfS)) N)) l' C P v' w' ∧ Kept (C :: P :: own v) w w' ∧ (v'.ownBlock = v.ownBlock ∨ ∃ g, v'.ownBlock = some g ∧ w.heap.size ≤ g) := by
  obtain ⟨fin, hfin⟩ : ∃ fin : TfS, ({ ({ s with rtt := R, rate := M.tfInit s.size R, doubled := N } : TfS) with loss := 0, rate := max (M.tfInit s.size R) s.size } : TfS) = fin := ⟨_, rfl⟩
  rw [hfin]
  have HFIN := Lib.hid hfin
  clear hfin
  have HM := Lib.hid (tfMade_any s hs l C P v w h)
  have HW1 := Lib.hid (fun W => tfWithin_any now 0 4611686018427387904 W)
  have HW2 := Lib.hid (fun W => tfWithin_any sample 1 4294967296 W)
  rw [hN] at HW1
  rw [hR] at HW2
  have hNb : 0 ≤ N ∧ N ≤ 4611686018427387904 := by omega
  have hRb : 1 ≤ R ∧ R ≤ 4294967296 := by omega
  obtain ⟨b1, b2⟩ := hs.b0
  have hsb1 := hs.b1
  have hsb2 := hs.b2
  have hsb4 := hs.b4
  have hXb : X < 18446744073709551616 := by omega
  obtain ⟨x1, x2, x3, _⟩ := mns x 1125899906842624 X hX
  have x1' : (if (1125899906842624 : Int) < (x : Int) then 1125899906842624 else (x : Int)) = (X : Int) := x1
  have x2' : (if 1125899906842624 < x then 1125899906842624 else (x : Int)) = (X : Int) := x2
  have x3' : min (x : Int) 1125899906842624 = (X : Int) := x3
  have m0 : min (0 : Int) 4294967296 = 0 := by decide
  have HNC : Hid (C ∉ P :: own v) := Lib.hid (own_nin h.ne h.ne2)
  have HCW : Hid (C < w.heap.size) := Lib.hid h.tf.lt
  have c2 : w.cell? ⟨C, 2, none⟩ = some (.int .i64 0) := by rw [← hr]; exact BlkIs.cell h.tf 2
  have f2 := BlkIs.free h.tf 2
  have hkA : Hid (Kept [C] w (w.setCell ⟨C, 2, none⟩ (.int .i64 R))) := Lib.hid ((Kept.refl _ _).setCell (.inl (by simp)) _)
  have HA : Hid (TfAt { s with rtt := R } l C P v (w.setCell ⟨C, 2, none⟩ (.int .i64 R))) := Lib.hid (h.put (i := 2) rfl)
  have hokA : ({ s with rtt := R } : TfS).ok := ⟨hs.b0, hs.b1, by simp only; omega, hs.b3, hs.b4⟩
  have HIN := Lib.hid (tfInitial_any { s with rtt := R } hokA (by simp only; omega) R rfl l C P v _ HA.out)
  have hIb := M.tfInit_bd s.size R b2
  obtain ⟨I, hI⟩ : ∃ I, M.tfInit s.size R = I := ⟨_, rfl⟩
  simp only at HIN
  rw [hI] at HIN hIb hl HFIN
  have HST := Lib.hid hs
  have HIe := Lib.hid hI
  clear h hs hr hX hI hN hR
  go_enter Tryz.func141, Tryz.ntmps141
  go_upto_region 5 with (first
    | (go_at_call 77; (with_reducible refine HM.out.mono ?_); rintro e w1 ⟨rfl, rfl⟩)
    | (go_at_call 175; (with_reducible refine (HW1.out _).mono ?_); rintro e w1 ⟨rfl, rfl⟩)
    | (go_at_call 175; (with_reducible refine (HW2.out _).mono ?_); rintro e w1 ⟨rfl, rfl⟩))
  generalize w.setCell ⟨C, 2, none⟩ (.int .i64 R) = W1 at *
  have d1 : ∀ n, (W1.drewN n).cell? ⟨C, 1, none⟩ = some (.int .u64 s.rate) := fun n => BlkIs.cell HA.out.tf 1
  have d5 : ∀ n, (W1.drewN n).cell? ⟨C, 5, none⟩ = some (.int .i64 s.doubled) := fun n => BlkIs.cell HA.out.tf 5
  have e1 : ∀ n, (W1.drewN n).frozen? ⟨C, 1, none⟩ = false := fun n => BlkIs.free HA.out.tf 1
  have e5 : ∀ n, (W1.drewN n).frozen? ⟨C, 5, none⟩ = false := fun n => BlkIs.free HA.out.tf 5
  clear c2 f2 HW1 HW2 HM
  go_upto_region 7 with (go_at_call 176; (with_reducible refine HIN.out.mono ?_); rintro e w1 ⟨rfl, n1, rfl⟩)
  obtain ⟨W2, hW2⟩ : ∃ W2, ((W1.drewN n1).setCell ⟨C, 1, none⟩ (.int .u64 I)).setCell ⟨C, 5, none⟩ (.int .i64 N) = W2 := ⟨_, rfl⟩
  have hkB : Hid (Kept [C] w W2) := Lib.hid (by rw [← hW2]; exact ((hkA.out.drewN n1).setCell (.inl (by simp)) _).setCell (.inl (by simp)) _)
  obtain ⟨s1, hs1⟩ : ∃ s1 : TfS, ({ s with rtt := R, rate := I, doubled := N } : TfS) = s1 := ⟨_, rfl⟩
  rw [hs1] at hl
  have HB : Hid (TfAt s1 l C P v W2) := Lib.hid (by
    rw [← hW2, ← hs1]
    have h1 : TfAt { s with rtt := R, rate := I } l C P v _ := (HA.out.drewN n1).put (i := 1) rfl
    exact h1.put (i := 5) rfl)
  rw [hW2]
  clear hW2 d1 d5 e1 e5 HIN HA
  have HS1E := Lib.hid hs1
  have hs1s : s1.size = s.size := by rw [← hs1]
  have hs1r : s1.rtt = (R : Int) := by rw [← hs1]
  have hs1d : s1.doubled = N := by rw [← hs1]
  have hs1t : s1.rate = I := by rw [← hs1]
  have HS1O : Hid (s1.ok) := Lib.hid (by rw [← hs1]; exact ⟨HST.out.b0, hIb, by simp only; omega, HST.out.b3, by simp only; omega⟩)
  have HLIM := Lib.hid (show Calls Tryz.prog 177 #[.pointer (some ⟨C, 0, none⟩), .int .i64 N, .int .u64 X, .int .u64 0, .bool lim] W2 _ from hl W2 HB.out)
  clear hl
  go_upto_region 8 with (go_at_call 177; (with_reducible refine HLIM.out.mono ?_); rintro e W3 ⟨rfl, v3, ht3, hk3, hv3⟩)
  have HV3 : Hid (v3.ownBlock = v.ownBlock ∨ ∃ g, v3.ownBlock = some g ∧ w.heap.size ≤ g) := Lib.hid (by
    rcases hv3 with h1 | ⟨g, h1, h2⟩
    · exact .inl h1
    · exact .inr ⟨g, h1, Nat.le_trans hkB.out.size h2⟩)
  have hkC : Hid (Kept (C :: P :: own v) w W3) := Lib.hid ((hkB.out.more (fun x hx => by simp at hx; subst hx; simp)).trans' (hk3.more (fun x hx => by simp; right; simpa using hx)))
  have HT3 := Lib.hid ht3
  have g3 : W3.cell? ⟨C, 3, none⟩ = some (.int .u64 s1.loss) := BlkIs.cell ht3.tf 3
  have k3 := BlkIs.free ht3.tf 3
  clear ht3 hk3 hv3 HLIM HB
  go_upto_region 11 with fail
  obtain ⟨W4, hW4⟩ : ∃ W4, W3.setCell ⟨C, 3, none⟩ (.int .u64 0) = W4 := ⟨_, rfl⟩
  have hk34 : Kept [C] W3 W4 := by rw [← hW4]; exact (Kept.refl _ _).setCell (.inl (by simp)) _
  obtain ⟨s2, hs2⟩ : ∃ s2 : TfS, ({ s1 with loss := 0 } : TfS) = s2 := ⟨_, rfl⟩
  have HD : Hid (TfAt s2 l' C P v3 W4) := Lib.hid (by rw [← hW4, ← hs2]; exact HT3.out.put (i := 3) rfl)
  have hkD : Hid (Kept (C :: P :: own v) w W4) := Lib.hid (hkC.out.trans' (hk34.more (fun x hx => by simp at hx; subst hx; simp)))
  rw [show W3.setCell ⟨C, 3, none⟩ (.int .u64 0) = W4 from hW4]
  clear hW4 hk34 g3 k3 HT3 hkC hkB
  have hs2s : s2.size = s.size := by rw [← hs2]; exact hs1s
  have hs2r : s2.rtt = (R : Int) := by rw [← hs2]; exact hs1r
  have hs2d : s2.doubled = N := by rw [← hs2]; exact hs1d
  have hs2t : s2.rate = I := by rw [← hs2]; exact hs1t
  have HS2O : Hid (s2.ok) := Lib.hid (by rw [← hs2]; exact ⟨HS1O.out.b0, HS1O.out.b1, HS1O.out.b2, by show 0 ≤ 4294967296; omega, HS1O.out.b4⟩)
  have HS2E := Lib.hid hs2
  clear hs2 hs1s hs1r hs1d hs1t hs1
  have q2 : W4.cell? ⟨C, 2, none⟩ = some (.int .i64 R) := by rw [← hs2r]; exact BlkIs.cell HD.out.tf 2
  have q5 : W4.cell? ⟨C, 5, none⟩ = some (.int .i64 N) := by rw [← hs2d]; exact BlkIs.cell HD.out.tf 5
  have hw1 : IntKind.i64.wrap (N - N) = N - N := IntWalk.i64_in _ (by omega)
  have hdec : decide ((R : Int) ≤ N - N) = false := decide_eq_false (by omega)
  have hz0 : N - N = 0 := Int.sub_self N
  have hdec0 : decide ((R : Int) ≤ 0) = false := decide_eq_false (by omega)
  clear hs2d hs2r
  go_quiet (fail)
  have HE : Hid (TfAt s2 l' C P v3 (W4.drewN nq)) := Lib.hid (HD.out.drewN nq)
  have hkE : Hid (Kept (C :: P :: own v) w (W4.drewN nq)) := Lib.hid (hkD.out.drewN nq)
  clear q2 q5 hw1 hdec hz0 hdec0 HD hkD
  generalize W4.drewN nq = W5 at *
  obtain ⟨s3, hs3⟩ : ∃ s3, s2 = s3 := ⟨_, rfl⟩
  obtain ⟨J0, hJ0⟩ : ∃ J0, I = J0 := ⟨_, rfl⟩
  have HOK3 : Hid (s3.ok) := Lib.hid (by rw [← hs3]; exact HS2O.out)
  have HFE : Hid (∀ J, max J0 s.size = J → ({ s3 with rate := J } : TfS) = fin) := Lib.hid (fun J hJ => by
    have hf := HFIN.out
    rw [← hf, ← hs3, ← HS2E.out, ← HS1E.out, ← hJ, ← hJ0])
  rw [hs3] at HE
  have hs3s : s3.size = s.size := by rw [← hs3]; exact hs2s
  have hs3t : s3.rate = J0 := by rw [← hs3, ← hJ0]; exact hs2t
  have hJ0b : J0 < 18446744073709551616 := by rw [← hs3t]; exact HOK3.out.b1
  clear hs3 hJ0 hs2s hs2t
  have q0 : W5.cell? ⟨C, 0, none⟩ = some (.int .u64 s.size) := by rw [← hs3s]; exact BlkIs.cell HE.out.tf 0
  have q1 : W5.cell? ⟨C, 1, none⟩ = some (.int .u64 J0) := by rw [← hs3t]; exact BlkIs.cell HE.out.tf 1
  have k1 := BlkIs.free HE.out.tf 1
  obtain ⟨J, hJ⟩ : ∃ J, max J0 s.size = J := ⟨_, rfl⟩
  obtain ⟨j1, j2, j3, _, j5, j6⟩ := mxs J0 s.size J hJ
  have hfin2 : ({ s3 with rate := J } : TfS) = fin := HFE.out J hJ
  have HF : Hid (TfAt fin l' C P v3 ((W5.setCell ⟨C, 1, none⟩ (.int .u64 J)).drew) ∧ Kept (C :: P :: own v) w ((W5.setCell ⟨C, 1, none⟩ (.int .u64 J)).drew)) := Lib.hid (by
    have hk : Kept [C] W5 ((W5.setCell ⟨C, 1, none⟩ (.int .u64 J)).drew) := ((Kept.refl _ _).setCell (.inl (by simp)) _).drew
    refine ⟨?_, hkE.out.trans' (hk.more (fun x hx => by simp at hx; subst hx; simp))⟩
    rw [← hfin2]
    have h1 : TfAt { s3 with rate := J } l' C P v3 _ := HE.out.put (i := 1) rfl
    exact h1.drewN 1)
  have HRUN := Lib.hid (tfRunOn_any fin (by
    rw [← hfin2]
    have ho := HOK3.out
    exact ⟨ho.b0, by show J < 18446744073709551616; omega, ho.b2, ho.b3, ho.b4⟩) (by rw [← hfin2]; show s3.size ≤ J; rw [hs3s]; exact j6) N (by omega) l' C P v3 _ HF.out.1)
  clear hJ hfin2 j5 j6 hs3s hs3t
  generalize s.size = sz at *
  go_wp2
  go_region_with (fail)
  all_goals
    go_wp2_with (go_at_call 178; (with_reducible refine HRUN.out.mono ?_); rintro e W7 ⟨rfl, ht7, hk7⟩)
    go_end0
    exact ⟨rfl, v3, ht7, HF.out.2.trans' (hk7.more (fun x hx => by simp at hx; subst hx; simp)), HV3.out⟩
end Go.Proofs.YtnhlachoimlhhaaGreatDoor

namespace Go.Proofs.YtnhlachoimlhhaaGreatDoor
open Go.ChangeShapes Go.WideShapes Go.ChangeAt Go.RowKit
set_option linter.unusedVariables false
set_option linter.unusedSimpArgs false

set_option maxHeartbeats 8000000 in
set_option maxRecDepth 100000 in
theorem tfHear_later_dbl (s : TfS) (hs : s.ok) (now sample : Int) (x : Nat) (hx : x < 18446744073709551616) (N : Int) (hN : max 0 (min now 4611686018427387904) = N) (R : Nat) (hR : max 1 (min sample 4294967296) = (R : Int)) (hr : 1 ≤ s.rtt) (Q : Nat) (hQ : (9 * s.rtt + R) / 10 = (Q : Int)) (X : Nat) (hX : min x 1125899906842624 = X) (hdb : (Q : Int) ≤ N - s.doubled) (lim : Bool)
    (l l' : List Pr) (LIM : Nat) (hLIM : LIM < 18446744073709551616) (C P : Nat) (v : Value) (w : World) (h : TfAt s l C P v w) (hl : LimIs ({ s with rtt := Q } : TfS) l C P v N X 0 lim LIM l') :
    Calls Tryz.prog 141 #[.pointer (some ⟨C, 0, none⟩), .int .i64 now, .int .i64 sample, .int .u64 x, .int .u64 0, .bool lim] w fun e w' => e = .returned (.tuple #[]) ∧
      ∃ v', TfAt (({ ({ s with rtt := Q } : TfS) with loss := 0, rate := max (max (min (M.mulT 2 (s.rate)) LIM) (M.tfInit s.size Q)) s.size, doubled := N } : TfS).run (M.tfDue (M.tfWait ({ ({ s with rtt := Q } : TfS) with loss := 0, rate := max (max (min (M.mulT 2 (s.rate)) LIM) (M.tfInit s.size Q)) s.size, doubled := N } : TfS)) N)) l' C P v' w' ∧ Kept (C :: P :: own v) w w' ∧ (v'.ownBlock = v.ownBlock ∨ ∃ g, v'.ownBlock = some g ∧ w.heap.size ≤ g) := by
  obtain ⟨fin, hfin⟩ : ∃ fin : TfS, ({ ({ s with rtt := Q } : TfS) with loss := 0, rate := max (max (min (M.mulT 2 (s.rate)) LIM) (M.tfInit s.size Q)) s.size, doubled := N } : TfS) = fin := ⟨_, rfl⟩
  rw [hfin]
  have HFIN := Lib.hid hfin
  clear hfin
  have HM := Lib.hid (tfMade_any s hs l C P v w h)
  have HW1 := Lib.hid (fun W => tfWithin_any now 0 4611686018427387904 W)
  have HW2 := Lib.hid (fun W => tfWithin_any sample 1 4294967296 W)
  rw [hN] at HW1
  rw [hR] at HW2
  have hNb : 0 ≤ N ∧ N ≤ 4611686018427387904 := by omega
  have hRb : 1 ≤ R ∧ R ≤ 4294967296 := by omega
  obtain ⟨b1, b2⟩ := hs.b0
  have hsb1 := hs.b1
  have hsb2 := hs.b2
  have hsb4 := hs.b4
  have hXb : X < 18446744073709551616 := by omega
  obtain ⟨x1, x2, x3, _⟩ := mns x 1125899906842624 X hX
  have x1' : (if (1125899906842624 : Int) < (x : Int) then 1125899906842624 else (x : Int)) = (X : Int) := x1
  have x2' : (if 1125899906842624 < x then 1125899906842624 else (x : Int)) = (X : Int) := x2
  have x3' : min (x : Int) 1125899906842624 = (X : Int) := x3
  have m0 : min (0 : Int) 4294967296 = 0 := by decide
  have HNC : Hid (C ∉ P :: own v) := Lib.hid (own_nin h.ne h.ne2)
  have HCW : Hid (C < w.heap.size) := Lib.hid h.tf.lt
  have c2 : w.cell? ⟨C, 2, none⟩ = some (.int .i64 s.rtt) := BlkIs.cell h.tf 2
  have f2 := BlkIs.free h.tf 2
  have hkB : Hid (Kept [C] w (w.setCell ⟨C, 2, none⟩ (.int .i64 Q))) := Lib.hid ((Kept.refl _ _).setCell (.inl (by simp)) _)
  obtain ⟨s1, hs1⟩ : ∃ s1 : TfS, ({ s with rtt := Q } : TfS) = s1 := ⟨_, rfl⟩
  rw [hs1] at hl
  have HB : Hid (TfAt s1 l C P v (w.setCell ⟨C, 2, none⟩ (.int .i64 Q))) := Lib.hid (by rw [← hs1]; exact h.put (i := 2) rfl)
  have hz : (s.rtt == 0) = false := by rw [beq_eq_false_iff_ne]; omega
  have h9 : IntKind.i64.wrap (9 * s.rtt) = 9 * s.rtt := IntWalk.i64_in _ (by omega)
  have h91 : IntKind.i64.wrap (9 * s.rtt + (R : Int)) = 9 * s.rtt + (R : Int) := IntWalk.i64_in _ (by omega)
  have h92 : (9 * s.rtt + (R : Int)).tdiv 10 = (Q : Int) := by rw [Int.tdiv_eq_ediv_of_nonneg (by omega)]; exact hQ
  have h93 : IntKind.i64.wrap (Q : Int) = (Q : Int) := IntWalk.i64_in _ (by omega)
  have hQb : 1 ≤ Q ∧ Q ≤ 4294967296 := by omega
  have HS1E := Lib.hid hs1
  have hs1s : s1.size = s.size := by rw [← hs1]
  have hs1r : s1.rtt = (Q : Int) := by rw [← hs1]
  have hs1d : s1.doubled = s.doubled := by rw [← hs1]
  have hs1t : s1.rate = s.rate := by rw [← hs1]
  have HS1O : Hid (s1.ok) := Lib.hid (by rw [← hs1]; exact ⟨hs.b0, hs.b1, by simp only; omega, hs.b3, hs.b4⟩)
  have HST := Lib.hid hs
  clear h hs hX hQ hs1 hN hR
  go_enter Tryz.func141, Tryz.ntmps141
  go_upto_region 7 with (first
    | (go_at_call 77; (with_reducible refine HM.out.mono ?_); rintro e w1 ⟨rfl, rfl⟩)
    | (go_at_call 175; (with_reducible refine (HW1.out _).mono ?_); rintro e w1 ⟨rfl, rfl⟩)
    | (go_at_call 175; (with_reducible refine (HW2.out _).mono ?_); rintro e w1 ⟨rfl, rfl⟩))
  clear c2 f2 HW1 HW2 HM h9 h91 h92 h93 hz hr
  generalize w.setCell ⟨C, 2, none⟩ (.int .i64 Q) = W2 at *
  have HLIM := Lib.hid (show Calls Tryz.prog 177 #[.pointer (some ⟨C, 0, none⟩), .int .i64 N, .int .u64 X, .int .u64 0, .bool lim] W2 _ from hl W2 HB.out)
  clear hl
  go_upto_region 8 with (go_at_call 177; (with_reducible refine HLIM.out.mono ?_); rintro e W3 ⟨rfl, v3, ht3, hk3, hv3⟩)
  have HV3 : Hid (v3.ownBlock = v.ownBlock ∨ ∃ g, v3.ownBlock = some g ∧ w.heap.size ≤ g) := Lib.hid (by
    rcases hv3 with h1 | ⟨g, h1, h2⟩
    · exact .inl h1
    · exact .inr ⟨g, h1, Nat.le_trans hkB.out.size h2⟩)
  have hkC : Hid (Kept (C :: P :: own v) w W3) := Lib.hid ((hkB.out.more (fun x hx => by simp at hx; subst hx; simp)).trans' (hk3.more (fun x hx => by simp; right; simpa using hx)))
  have HT3 := Lib.hid ht3
  have g3 : W3.cell? ⟨C, 3, none⟩ = some (.int .u64 s1.loss) := BlkIs.cell ht3.tf 3
  have k3 := BlkIs.free ht3.tf 3
  clear ht3 hk3 hv3 HLIM HB
  go_upto_region 11 with fail
  obtain ⟨W4, hW4⟩ : ∃ W4, W3.setCell ⟨C, 3, none⟩ (.int .u64 0) = W4 := ⟨_, rfl⟩
  have hk34 : Kept [C] W3 W4 := by rw [← hW4]; exact (Kept.refl _ _).setCell (.inl (by simp)) _
  obtain ⟨s2, hs2⟩ : ∃ s2 : TfS, ({ s1 with loss := 0 } : TfS) = s2 := ⟨_, rfl⟩
  have HD : Hid (TfAt s2 l' C P v3 W4) := Lib.hid (by rw [← hW4, ← hs2]; exact HT3.out.put (i := 3) rfl)
  have hkD : Hid (Kept (C :: P :: own v) w W4) := Lib.hid (hkC.out.trans' (hk34.more (fun x hx => by simp at hx; subst hx; simp)))
  rw [show W3.setCell ⟨C, 3, none⟩ (.int .u64 0) = W4 from hW4]
  clear hW4 hk34 g3 k3 HT3 hkC hkB
  have hs2s : s2.size = s.size := by rw [← hs2]; exact hs1s
  have hs2r : s2.rtt = (Q : Int) := by rw [← hs2]; exact hs1r
  have hs2d : s2.doubled = s.doubled := by rw [← hs2]; exact hs1d
  have hs2t : s2.rate = s.rate := by rw [← hs2]; exact hs1t
  have HS2O : Hid (s2.ok) := Lib.hid (by rw [← hs2]; exact ⟨HS1O.out.b0, HS1O.out.b1, HS1O.out.b2, by show 0 ≤ 4294967296; omega, HS1O.out.b4⟩)
  have HS2E := Lib.hid hs2
  clear hs2 hs1s hs1r hs1d hs1t 
  have q2 : W4.cell? ⟨C, 2, none⟩ = some (.int .i64 Q) := by rw [← hs2r]; exact BlkIs.cell HD.out.tf 2
  have q5 : W4.cell? ⟨C, 5, none⟩ = some (.int .i64 s.doubled) := by rw [← hs2d]; exact BlkIs.cell HD.out.tf 5
  have hw1 : IntKind.i64.wrap (N - s.doubled) = N - s.doubled := IntWalk.i64_in _ (by omega)
  have hdec : decide ((Q : Int) ≤ N - s.doubled) = true := decide_eq_true (by omega)
  go_quiet (fail)
  have HE0 : Hid (TfAt s2 l' C P v3 (W4.drewN nq)) := Lib.hid (HD.out.drewN nq)
  have hkE0 : Hid (Kept (C :: P :: own v) w (W4.drewN nq)) := Lib.hid (hkD.out.drewN nq)
  clear q2 q5 hw1 hdec HD hkD
  generalize W4.drewN nq = W4' at *
  -- the doubling
  have hIb := M.tfInit_bd s.size Q b2
  have HIN := Lib.hid (tfInitial_any s2 HS2O.out (by rw [hs2r]; omega) Q hs2r l' C P v3 W4' HE0.out)
  rw [hs2s] at HIN
  obtain ⟨I2, hI2⟩ : ∃ I2, M.tfInit s.size Q = I2 := ⟨_, rfl⟩
  obtain ⟨D2, hD2⟩ : ∃ D2, M.mulT 2 s.rate = D2 := ⟨_, rfl⟩
  obtain ⟨E2, hE2⟩ : ∃ E2, min D2 LIM = E2 := ⟨_, rfl⟩
  obtain ⟨J0, hJ0⟩ : ∃ J0, max E2 I2 = J0 := ⟨_, rfl⟩
  rw [hI2] at HIN hIb HFIN
  rw [hD2, hE2, hJ0] at HFIN
  have HMU : Hid (∀ W, Calls Tryz.prog 88 #[.int .u64 2, .int .u64 s.rate] W fun e w' => e = .returned (.int .u64 D2) ∧ W = w') := Lib.hid (fun W => by have h1 := fixMul_any 2 s.rate (by decide) hsb1 W; rw [hD2] at h1; exact h1)
  obtain ⟨n1, n2, n3, _, n5, n6⟩ := mns D2 LIM E2 hE2
  obtain ⟨o1, o2, o3, o4, o5, o6⟩ := mxs E2 I2 J0 hJ0
  have q1 : W4'.cell? ⟨C, 1, none⟩ = some (.int .u64 s.rate) := by rw [← hs2t]; exact BlkIs.cell HE0.out.tf 1
  have d1 : ∀ n, (W4'.drewN n).cell? ⟨C, 1, none⟩ = some (.int .u64 s.rate) := fun n => q1
  have d5 : ∀ n, (W4'.drewN n).cell? ⟨C, 5, none⟩ = some (.int .i64 s2.doubled) := fun n => BlkIs.cell HE0.out.tf 5
  have e1 : ∀ n, (W4'.drewN n).frozen? ⟨C, 1, none⟩ = false := fun n => BlkIs.free HE0.out.tf 1
  have e5 : ∀ n, (W4'.drewN n).frozen? ⟨C, 5, none⟩ = false := fun n => BlkIs.free HE0.out.tf 5
  have hJ0b : J0 < 18446744073709551616 := by omega
  have HSR : Hid (s2.size = s.size) := Lib.hid hs2s
  clear hI2 hD2 hE2 hJ0 o4 n5 n6 o5 o6 hs2s hs2r hs2t hs2d
  go_upto_region 13 with (first
    | (go_at_call 88; (with_reducible refine (HMU.out _).mono ?_); rintro e w1 ⟨rfl, rfl⟩)
    | (go_at_call 176; (with_reducible refine HIN.out.mono ?_); rintro e w1 ⟨rfl, n9, rfl⟩))
  obtain ⟨W5, hW5⟩ : ∃ W5, ((W4'.drewN n9).setCell ⟨C, 1, none⟩ (.int .u64 J0)).setCell ⟨C, 5, none⟩ (.int .i64 N) = W5 := ⟨_, rfl⟩
  obtain ⟨s3, hs3⟩ : ∃ s3 : TfS, ({ s2 with rate := J0, doubled := N } : TfS) = s3 := ⟨_, rfl⟩
  have HE : Hid (TfAt s3 l' C P v3 W5) := Lib.hid (by
    rw [← hW5, ← hs3]
    have h1 : TfAt { s2 with rate := J0 } l' C P v3 _ := (HE0.out.drewN n9).put (i := 1) rfl
    exact h1.put (i := 5) rfl)
  have hkE : Hid (Kept (C :: P :: own v) w W5) := Lib.hid (by rw [← hW5]; exact ((hkE0.out.drewN n9).setCell (.inl (by simp)) _).setCell (.inl (by simp)) _)
  rw [hW5]
  have HOK3 : Hid (s3.ok) := Lib.hid (by rw [← hs3]; exact ⟨HS2O.out.b0, hJ0b, HS2O.out.b2, HS2O.out.b3, by simp only; omega⟩)
  have HFE : Hid (∀ J, max J0 s.size = J → ({ s3 with rate := J } : TfS) = fin) := Lib.hid (fun J hJ => by
    have hf := HFIN.out
    rw [← hf, ← hs3, ← HS2E.out, ← HS1E.out, ← hJ])
  have hs3s : s3.size = s.size := by rw [← hs3]; exact HSR.out
  have hs3t : s3.rate = J0 := by rw [← hs3]
  clear hW5 hs3 d1 d5 e1 e5 q1 n1 n2 n3 o1 o2 o3 HE0 hkE0 HIN HMU
  have q0 : W5.cell? ⟨C, 0, none⟩ = some (.int .u64 s.size) := by rw [← hs3s]; exact BlkIs.cell HE.out.tf 0
  have q1 : W5.cell? ⟨C, 1, none⟩ = some (.int .u64 J0) := by rw [← hs3t]; exact BlkIs.cell HE.out.tf 1
  have k1 := BlkIs.free HE.out.tf 1
  obtain ⟨J, hJ⟩ : ∃ J, max J0 s.size = J := ⟨_, rfl⟩
  obtain ⟨j1, j2, j3, _, j5, j6⟩ := mxs J0 s.size J hJ
  have hfin2 : ({ s3 with rate := J } : TfS) = fin := HFE.out J hJ
  have HF : Hid (TfAt fin l' C P v3 ((W5.setCell ⟨C, 1, none⟩ (.int .u64 J)).drew) ∧ Kept (C :: P :: own v) w ((W5.setCell ⟨C, 1, none⟩ (.int .u64 J)).drew)) := Lib.hid (by
    have hk : Kept [C] W5 ((W5.setCell ⟨C, 1, none⟩ (.int .u64 J)).drew) := ((Kept.refl _ _).setCell (.inl (by simp)) _).drew
    refine ⟨?_, hkE.out.trans' (hk.more (fun x hx => by simp at hx; subst hx; simp))⟩
    rw [← hfin2]
    have h1 : TfAt { s3 with rate := J } l' C P v3 _ := HE.out.put (i := 1) rfl
    exact h1.drewN 1)
  have HRUN := Lib.hid (tfRunOn_any fin (by
    rw [← hfin2]
    have ho := HOK3.out
    exact ⟨ho.b0, by show J < 18446744073709551616; omega, ho.b2, ho.b3, ho.b4⟩) (by rw [← hfin2]; show s3.size ≤ J; rw [hs3s]; exact j6) N (by omega) l' C P v3 _ HF.out.1)
  clear hJ hfin2 j5 j6 hs3s hs3t
  generalize s.size = sz at *
  go_wp2
  go_region_with (fail)
  all_goals
    go_wp2_with (go_at_call 178; (with_reducible refine HRUN.out.mono ?_); rintro e W7 ⟨rfl, ht7, hk7⟩)
    go_end0
    exact ⟨rfl, v3, ht7, HF.out.2.trans' (hk7.more (fun x hx => by simp at hx; subst hx; simp)), HV3.out⟩
end Go.Proofs.YtnhlachoimlhhaaGreatDoor

namespace Go.Proofs.YtnhlachoimlhhaaGreatDoor
open Go.ChangeShapes Go.WideShapes Go.ChangeAt Go.RowKit
set_option linter.unusedVariables false
set_option linter.unusedSimpArgs false

theorem tfWait_bd (s : TfS) (hs : s.ok) (hsr : s.size ≤ s.rate) (h1 : 1 ≤ s.rtt) : 4 ≤ M.tfWait s ∧ M.tfWait s ≤ 17179869184 := by
  unfold M.tfWait
  have h2 := hs.b2
  have h3 := hs.b0
  have h4 : 128 * s.size * 1000000 / s.rate ≤ 128000000 := Nat.div_le_of_le_mul (by omega)
  omega
/-- Left alone, i times it has fallen. -/
structure HvI (S i : Nat) (now : Int) (s : TfS) : Prop where
  ok : s.ok
  sz : s.size = S
  rt : 1 ≤ s.rtt
  rg : S ≤ s.rate
  n1 : 0 ≤ now
  n2 : now ≤ 1000 + (i : Int) * 17179869184
  st : (s.runs = true ∧ s.due = M.tfDue (M.tfWait s) now ∧ s.rate * 2 ^ i < 18446744073709551616) ∨ (s.runs = false ∧ s.rate = S)
theorem HvI.due {S i : Nat} {now : Int} {s : TfS} (h : HvI S i now s) (hi : i ≤ 70) (hr : s.runs = true) : s.due = now + M.tfWait s ∧ 4 ≤ M.tfWait s ∧ M.tfWait s ≤ 17179869184 := by
  obtain ⟨a, b⟩ := tfWait_bd s h.ok (by rw [h.sz]; exact h.rg) h.rt
  refine ⟨?_, a, b⟩
  rcases h.st with ⟨h1, h2, h3⟩ | ⟨h1, _⟩
  · rw [h2]
    have := h.n1
    have := h.n2
    unfold M.tfDue
    omega
  · rw [h1] at hr; cases hr
theorem HvI.low {S i : Nat} {now : Int} {s : TfS} (h : HvI S i now s) (hr : s.runs = true) : i < 64 := by
  rcases h.st with ⟨h1, h2, h3⟩ | ⟨h1, _⟩
  · have h5 : 1 ≤ s.rate := by have := h.rg; have := h.ok.b0; have := h.sz; omega
    rcases Nat.lt_or_ge i 64 with h4 | h4
    · exact h4
    · exfalso
      have h6 : 2 ^ 64 ≤ 2 ^ i := Nat.pow_le_pow_right (by decide) h4
      have h7 : 1 * 2 ^ i ≤ s.rate * 2 ^ i := Nat.mul_le_mul_right _ h5
      have h8 : (2 : Nat) ^ 64 = 18446744073709551616 := by decide
      omega
  · rw [h1] at hr; cases hr
theorem HvI.next {S i : Nat} {now : Int} {s : TfS} (h : HvI S i now s) (hr : s.runs = true) : HvI S (i + 1) s.due (s.fire s.due) := by
  have hi := h.low hr
  obtain ⟨d1, d2, d3⟩ := h.due (by omega) hr
  have hsz := h.sz
  have hrg := h.rg
  have n1 := h.n1
  have n2 := h.n2
  refine ⟨TfS.fire_ok h.ok (by omega) _, by rw [TfS.fire_size]; exact hsz, by rw [TfS.fire_rtt]; exact h.rt, by rw [TfS.fire_rate]; omega, by omega, by omega, ?_⟩
  unfold TfS.fire
  by_cases e : s.half.rate = s.size
  · rw [if_pos e]
    exact .inr ⟨rfl, by rw [← hsz, ← e]⟩
  · rw [if_neg e]
    refine .inl ⟨rfl, rfl, ?_⟩
    rcases h.st with ⟨h1, h2, h3⟩ | ⟨h1, _⟩
    · have h4 : s.half.rate = s.rate / 2 := by
        have : s.half.rate = max (s.rate / 2) s.size := rfl
        omega
      show s.half.rate * 2 ^ (i + 1) < _
      rw [h4, Nat.pow_succ]
      have h5 : s.rate / 2 * 2 ≤ s.rate := by omega
      have h6 : s.rate / 2 * 2 * 2 ^ i ≤ s.rate * 2 ^ i := Nat.mul_le_mul_right _ h5
      have h7 : s.rate / 2 * (2 ^ i * 2) = s.rate / 2 * 2 * 2 ^ i := by rw [Nat.mul_comm (2 ^ i) 2, Nat.mul_assoc]
      omega
    · rw [h1] at hr; cases hr
theorem mulT_ltK (a b : Nat) : M.mulT a b < 18446744073709551616 := by
  unfold M.mulT
  split
  · next h => exact h
  · decide
end Go.Proofs.YtnhlachoimlhhaaGreatDoor

namespace Go.Proofs.YtnhlachoimlhhaaGreatDoor
open Go.ChangeShapes Go.WideShapes Go.ChangeAt Go.RowKit
set_option linter.unusedVariables false
set_option linter.unusedSimpArgs false

theorem indexFunc_first (l : List Pr) (v : Value) (Bx : Nat) (least : Int) (w : World) (hr : PrRow l v w) (hc : w.cell? ⟨Bx, 0, none⟩ = some (.int .i64 least)) (h0 : 0 < l.length) (hl : l.length ≤ 1000) (hold : (l.getD 0 (0, 0)).1 < least) :
    Calls Tryz.prog 254 #[v, .func (.func 223) #[] #[.pointer (some ⟨Bx, 0, none⟩)]] w fun e w' => e = .returned (.int .i64 0) ∧ Below w.heap.size w w' := by
  have HU := Lib.hid (upd1_any (l.getD 0 (0, 0)) Bx least w hc)
  obtain ⟨g, c, rfl, hc1, hc2, hg, hcell, _, _⟩ := hr.shape h0
  obtain ⟨x0, x1⟩ := hcell 0 h0
  rw [decide_eq_true hold] at HU
  generalize l.getD 0 (0, 0) = p at *
  obtain ⟨a, x⟩ := p
  simp only [Nat.zero_mul, Nat.zero_add] at x0 x1 HU
  have hl0 : decide ((0 : Int) < (l.length : Int)) = true := decide_eq_true (by omega)
  generalize l.length = N at *
  clear hr hcell hc hold
  go_enter Tryz.func254, Tryz.ntmps254
  go_wp2
  refine wp_loop_rounds 1 ?_
  rw [rounds_succ]
  go_wp2_with (go_at_call 223; (with_reducible refine HU.out.mono ?_); rintro e w1 ⟨rfl, hb1⟩)
  go_ret
  exact ⟨rfl, hb1⟩
/-- What is written behind a row leaves it. -/
theorem PrRow.setFar {l : List Pr} {g n c : Nat} {w : World} (h : PrRow l (.slice (some ⟨g, 0, none⟩) n c) w) (k : Nat) (hk : l.length * 2 ≤ k) (u : Value) : PrRow l (.slice (some ⟨g, 0, none⟩) n c) (w.setCell ⟨g, k, none⟩ u) := by
  refine ⟨h.1, ?_⟩
  rcases h.2 with ⟨hv, h0⟩ | ⟨g', cap, cur, hv, hB, hg', hcap, hcm, hs, ht⟩
  · cases hv
  · injection hv with e1 e2 e3
    injection e1 with e1
    injection e1 with e1
    subst e1 e2 e3
    refine .inr ⟨g, c, cur.setIfInBounds k u, rfl, hB, heap_setCell_same w g _ _ _ _ hg', hcap, hcm, by rw [Array.size_setIfInBounds]; exact hs, ?_⟩
    rw [Array.toList_setIfInBounds, List.take_set, List.set_eq_of_length_le (by rw [List.length_take]; omega)]
    exact ht
/-- 'clear' of one pair. -/
theorem run_clear_pr1 (w : World) (ty : TypeId) (b o c : Nat) (h0 : (w.cell? ⟨b, o, none⟩).isSome = true) (h1 : (w.cell? ⟨b, o + 1, none⟩).isSome = true) (f0 : w.frozen? ⟨b, o, none⟩ = false) (f1 : w.frozen? ⟨b, o + 1, none⟩ = false) :
    (Builtin.clear_ #[194] ty #[.slice (some ⟨b, o, none⟩) 1 c]).run Tryz.prog w = .ok (.tuple #[]) (w.setCells b o [.int .i64 0, .int .u64 0]) := by
  have hst := run_storeCells_cells (P := Tryz.prog) b o [.int .i64 0, .int .u64 0] 0 w (by
    intro j hj
    rcases j with _ | _ | j
    · simpa using h0
    · simpa using h1
    · simp at hj; omega) (by
    intro j hj
    rcases j with _ | _ | j
    · simpa using f0
    · simpa using f1
    · simp at hj; omega) (by intro v hv; simp at hv; rcases hv with rfl | rfl <;> rfl)
  simp only [Nat.add_zero] at hst
  have hz : (Builtin.zeroCells (Value.agg #[.int .i64 0, .int .u64 0]).cells 1).toList = [.int .i64 0, .int .u64 0] := by simp [Builtin.zeroCells, Value.cells]; rfl
  simp [Builtin.clear_, run_underlying Tryz.underlying194, Tryz.zeroValue193, hz, hst]
end Go.Proofs.YtnhlachoimlhhaaGreatDoor

namespace Go.Proofs.YtnhlachoimlhhaaGreatDoor
open Go.ChangeShapes Go.WideShapes Go.ChangeAt Go.RowKit
set_option linter.unusedVariables false
set_option linter.unusedSimpArgs false

theorem prList_put (l : List Pr) : ∀ (k : Nat), k < l.length → ∀ p : Pr, ((prList l).set (k * 2) (.int .i64 p.1)).set (k * 2 + 1) (.int .u64 p.2) = prList (l.set k p) := by
  induction l with
  | nil => intro k hk; simp at hk
  | cons q l ih =>
    intro k hk p
    cases k with
    | zero => rfl
    | succ k =>
      have := ih k (by simpa using hk) p
      rw [List.set_cons_succ]
      show (([Value.int .i64 q.1, .int .u64 q.2] ++ prList l).set ((k + 1) * 2) _).set ((k + 1) * 2 + 1) _ = [Value.int .i64 q.1, .int .u64 q.2] ++ prList _
      rw [List.set_append_right _ _ (by simp; omega), List.set_append_right _ _ (by simp; omega), ← this]
      congr 3
      · simp only [List.length_cons, List.length_nil]; omega
      · simp only [List.length_cons, List.length_nil]; omega
/-- A pair is written. -/
theorem PrRow.put {l : List Pr} {g c : Nat} {w : World} (h : PrRow l (.slice (some ⟨g, 0, none⟩) l.length c) w) (k : Nat) (hk : k < l.length) (p : Pr) : PrRow (l.set k p) (.slice (some ⟨g, 0, none⟩) l.length c) ((w.setCell ⟨g, k * 2, none⟩ (.int .i64 p.1)).setCell ⟨g, k * 2 + 1, none⟩ (.int .u64 p.2)) := by
  rcases h.2 with ⟨hv, h0⟩ | ⟨g', cap, cur, hv, hB, hg', hcap, hcm, hs, ht⟩
  · cases hv
  · injection hv with e1 e2 e3
    injection e1 with e1
    injection e1 with e1
    subst e1 e3
    have hll : (l.set k p).length = l.length := List.length_set
    have k1 := heap_setCell_same w g (k * 2) _ _ (.int .i64 p.1) hg'
    have k2 := heap_setCell_same _ g (k * 2 + 1) _ _ (.int .u64 p.2) k1
    refine ⟨by rw [prList_len, hll], .inr ⟨g, c, _, by rw [hll], hB, k2, by rw [hll]; exact hcap, hcm, by simp only [Array.size_setIfInBounds]; exact hs, ?_⟩⟩
    rw [hll, Array.toList_setIfInBounds, Array.toList_setIfInBounds, List.take_set, List.take_set, ht]
    exact prList_put l k hk p
theorem prList_take (l : List Pr) (k : Nat) : (prList l).take (k * 2) = prList (l.take k) := by
  induction l generalizing k with
  | nil => simp [prList]
  | cons q l ih =>
    cases k with
    | zero => simp [prList]
    | succ k =>
      show ([Value.int .i64 q.1, .int .u64 q.2] ++ prList l).take ((k + 1) * 2) = [Value.int .i64 q.1, .int .u64 q.2] ++ prList (l.take k)
      rw [← ih k, List.take_append, List.take_of_length_le (by simp; omega)]
      congr 2
      simp only [List.length_cons, List.length_nil]; omega
theorem PrRow.cut {l : List Pr} {g c : Nat} {w : World} (h : PrRow l (.slice (some ⟨g, 0, none⟩) l.length c) w) (k : Nat) (hk : k ≤ l.length) : PrRow (l.take k) (.slice (some ⟨g, 0, none⟩) k c) w := by
  rcases h.2 with ⟨hv, h0⟩ | ⟨g', cap, cur, hv, hB, hg', hcap, hcm, hs, ht⟩
  · cases hv
  · injection hv with e1 e2 e3
    injection e1 with e1
    injection e1 with e1
    subst e1 e3
    have hll : (l.take k).length = k := by rw [List.length_take]; omega
    refine ⟨by rw [prList_len, hll], .inr ⟨g, c, cur, by rw [hll], hB, hg', by rw [hll]; omega, hcm, hs, ?_⟩⟩
    rw [hll, ← prList_take, ← ht, List.take_take]
    congr 1
    omega
set_option maxHeartbeats 2000000 in
set_option maxRecDepth 100000 in
/-- The first of three goes, the others take its place. -/
theorem deleteFunc_first3 (p q r : Pr) (v : Value) (Bx : Nat) (least : Int) (w : World) (hr : PrRow [p, q, r] v w) (hc : w.cell? ⟨Bx, 0, none⟩ = some (.int .i64 least)) (hBx : ∀ g, v.ownBlock = some g → g ≠ Bx) (h1 : p.1 < least) (h2 : least ≤ q.1) (h3 : least ≤ r.1) :
    Calls Tryz.prog 222 #[v, .func (.func 223) #[] #[.pointer (some ⟨Bx, 0, none⟩)]] w fun e w' => ∃ g c, v = .slice (some ⟨g, 0, none⟩) 3 c ∧ e = .returned (.slice (some ⟨g, 0, none⟩) 2 c) ∧ PrRow [q, r] (.slice (some ⟨g, 0, none⟩) 2 c) w' ∧ Kept [g] w w' := by
  have hi0 := indexFunc_first [p, q, r] v Bx least w hr hc (by simp) (by simp) h1
  obtain ⟨g, c, rfl, hc1, hc2, hg, hcell, hfr, cur, hcur⟩ := hr.shape (by simp)
  have hgB := hBx g rfl
  have HR := Lib.hid hr
  have hlt : Bx < w.heap.size := World.block_lt_of_cell? w _ hc
  simp only [List.length_cons, List.length_nil, Nat.zero_add, Nat.reduceAdd] at hc1 hi0 hr ⊢
  have HI := Lib.hid hi0
  clear hi0
  -- what a row of three holds
  have HCE : Hid (∀ (a b d : Pr) W, PrRow [a, b, d] (.slice (some ⟨g, 0, none⟩) 3 c) W → W.cell? ⟨g, 0, none⟩ = some (.int .i64 a.1) ∧ W.cell? ⟨g, 1, none⟩ = some (.int .u64 a.2) ∧ W.cell? ⟨g, 2, none⟩ = some (.int .i64 b.1) ∧ W.cell? ⟨g, 3, none⟩ = some (.int .u64 b.2) ∧ W.cell? ⟨g, 4, none⟩ = some (.int .i64 d.1) ∧ W.cell? ⟨g, 5, none⟩ = some (.int .u64 d.2) ∧ ∀ i, W.frozen? ⟨g, i, none⟩ = false) := Lib.hid (fun a b d W hW => by
    obtain ⟨g', c', e, _, _, _, hcell, hfr, _⟩ := hW.shape (by simp)
    injection e with e _ e2
    injection e with e
    injection e with e
    subst e e2
    have a0 := hcell 0 (by simp)
    have a1 := hcell 1 (by simp)
    have a2 := hcell 2 (by simp)
    exact ⟨a0.1, a0.2, a1.1, a1.2, a2.1, a2.2, hfr⟩)
  have HUQ : Hid (∀ z : Pr, least ≤ z.1 → ∀ W, W.cell? ⟨Bx, 0, none⟩ = some (.int .i64 least) → Calls Tryz.prog 223 #[.agg #[.int .i64 z.1, .int .u64 z.2], .pointer (some ⟨Bx, 0, none⟩)] W fun e w' => e = .returned (.bool false) ∧ Below W.heap.size W w') := Lib.hid (fun z hz W hW => by
    have h3 := upd1_any z Bx least W hW
    rw [decide_eq_false (by omega)] at h3
    exact h3)
  have HQ := Lib.hid (HUQ.out q h2)
  have HR2 := Lib.hid (HUQ.out r h3)
  have HBXL : Hid (Bx < w.heap.size ∧ w.cell? ⟨Bx, 0, none⟩ = some (.int .i64 least) ∧ g < w.heap.size ∧ g ≠ Bx) := Lib.hid ⟨hlt, hc, hg, hgB⟩
  clear hr hcell hfr hcur hc hBx h1 h2 h3 HUQ hlt hg
  obtain ⟨qa, qx⟩ := q
  obtain ⟨pa, px⟩ := p
  obtain ⟨ra, rx⟩ := r
  simp only at HQ HR2
  go_enter Tryz.func222, Tryz.ntmps222
  go_upto_region 4 with (go_at_call 254; (with_reducible refine HI.out.mono ?_); rintro e w1 ⟨rfl, hb1⟩)
  have HR1 := Lib.hid (HR.out.kept (Kept.of_below [] hb1) (by simp))
  have HK1 : Hid (Kept [] w w1) := Lib.hid (Kept.of_below [] hb1)
  have bx : w1.cell? ⟨Bx, 0, none⟩ = some (.int .i64 least) := (HK1.out.cellS HBXL.out.1 (by simp)).trans HBXL.out.2.1
  have n0 : ∀ o, (w1.alloc o).cell? ⟨Bx, 0, none⟩ = some (.int .i64 least) := fun o => by rw [World.cell?_alloc_some _ _ _ (by rw [bx]; rfl)]; exact bx
  obtain ⟨a0, a1, a2, a3, a4, a5, fz⟩ := HCE.out _ _ _ _ HR1.out
  simp only at a0 a1 a2 a3 a4 a5
  clear hb1 a0 a1 a4 a5
  go_wp2
  refine wp_loop_rounds 3 ?_
  rw [rounds_succ]
  go_upto_region 9 with (go_at_call 223; (with_reducible refine (HQ.out _ (n0 _)).mono ?_); rintro e w2 ⟨rfl, hb2⟩)
  have HK2 : Hid (Kept [] w w2) := Lib.hid (HK1.out.trans' ((Kept.of_below [] (bel_alloc _ _)).trans' (Kept.of_below [] hb2)))
  have HRw2 := Lib.hid (HR.out.kept HK2.out (by simp))
  have kbx : BlkIs #[.int .i64 qa, .int .u64 qx] 193 w1.heap.size w2 := BlkIs.below (BlkIs.new #[.int .i64 qa, .int .u64 qx] 193 w1) hb2
  have HNG : Hid (w1.heap.size ≠ g) := Lib.hid (by have := HK1.out.size; have := HBXL.out; omega)
  clear a2 a3 bx n0 hb2 fz
  obtain ⟨a0, a1, a2, a3, a4, a5, fz⟩ := HCE.out _ _ _ _ HRw2.out
  simp only at a0 a1 a2 a3 a4 a5
  have f0 := fz 0
  have f1 := fz 1
  have b0 : w2.cell? ⟨w1.heap.size, 0, none⟩ = some (.int .i64 qa) := BlkIs.cell kbx 0
  have b1 : w2.cell? ⟨w1.heap.size, 1, none⟩ = some (.int .u64 qx) := BlkIs.cell kbx 1
  clear kbx a2 a3 a4 a5 fz
  generalize w1.heap.size = Eb at *
  go_wp2
  rw [rounds_succ]
  go_upto_region 7 with fail
  obtain ⟨W3, hW3⟩ : ∃ W3, (w2.setCell ⟨g, 0, none⟩ (.int .i64 qa)).setCell ⟨g, 1, none⟩ (.int .u64 qx) = W3 := ⟨_, rfl⟩
  rw [hW3]
  have HR3 : Hid (PrRow [(qa, qx), (qa, qx), (ra, rx)] (.slice (some ⟨g, 0, none⟩) 3 c) W3) := Lib.hid (by rw [← hW3]; exact HRw2.out.put 0 (by simp) (qa, qx))
  have HK3 : Hid (Kept [g] w W3) := Lib.hid (by rw [← hW3]; exact ((HK2.out.more (by simp)).setCell (.inl (by simp)) _).setCell (.inl (by simp)) _)
  clear hW3 a0 a1 b0 b1 f0 f1
  have bx : W3.cell? ⟨Bx, 0, none⟩ = some (.int .i64 least) := (HK3.out.cellS HBXL.out.1 (by have := HBXL.out; simp; omega)).trans HBXL.out.2.1
  have n0 : ∀ o, (W3.alloc o).cell? ⟨Bx, 0, none⟩ = some (.int .i64 least) := fun o => by rw [World.cell?_alloc_some _ _ _ (by rw [bx]; rfl)]; exact bx
  obtain ⟨a0, a1, a2, a3, a4, a5, fz⟩ := HCE.out _ _ _ _ HR3.out
  simp only at a0 a1 a2 a3 a4 a5
  clear a0 a1 a2 a3 fz
  go_upto_region 9 with (go_at_call 223; (with_reducible refine (HR2.out _ (n0 _)).mono ?_); rintro e w4 ⟨rfl, hb4⟩)
  have HK4 : Hid (Kept [g] w w4) := Lib.hid (HK3.out.trans' ((Kept.of_below [g] (bel_alloc _ _)).trans' (Kept.of_below [g] hb4)))
  have HR4 := Lib.hid (HR3.out.kept ((Kept.of_below [] (bel_alloc W3 (.cells #[.int .i64 ra, .int .u64 rx] 193))).trans' (Kept.of_below [] hb4)) (by simp))
  have kbx : BlkIs #[.int .i64 ra, .int .u64 rx] 193 W3.heap.size w4 := BlkIs.below (BlkIs.new #[.int .i64 ra, .int .u64 rx] 193 W3) hb4
  have HNG3 : Hid (W3.heap.size ≠ g) := Lib.hid (by have := HK3.out.size; have := HBXL.out; omega)
  clear a4 a5 bx n0 hb4
  obtain ⟨a0, a1, a2, a3, a4, a5, fz⟩ := HCE.out _ _ _ _ HR4.out
  simp only at a0 a1 a2 a3 a4 a5
  have f2 := fz 2
  have f3 := fz 3
  have b0 : w4.cell? ⟨W3.heap.size, 0, none⟩ = some (.int .i64 ra) := BlkIs.cell kbx 0
  have b1 : w4.cell? ⟨W3.heap.size, 1, none⟩ = some (.int .u64 rx) := BlkIs.cell kbx 1
  clear kbx a0 a1 a4 a5 fz
  generalize W3.heap.size = Ec at *
  go_wp2
  rw [rounds_succ]
  go_upto_region 11 with fail
  obtain ⟨W5, hW5⟩ : ∃ W5, (w4.setCell ⟨g, 2, none⟩ (.int .i64 ra)).setCell ⟨g, 3, none⟩ (.int .u64 rx) = W5 := ⟨_, rfl⟩
  rw [hW5]
  have HR5 : Hid (PrRow [(qa, qx), (ra, rx), (ra, rx)] (.slice (some ⟨g, 0, none⟩) 3 c) W5) := Lib.hid (by rw [← hW5]; exact HR4.out.put 1 (by simp) (ra, rx))
  have HK5 : Hid (Kept [g] w W5) := Lib.hid (by rw [← hW5]; exact (HK4.out.setCell (.inl (by simp)) _).setCell (.inl (by simp)) _)
  clear hW5 a2 a3 b0 b1 f2 f3
  obtain ⟨a0, a1, a2, a3, a4, a5, fz⟩ := HCE.out _ _ _ _ HR5.out
  have y4 := fz 4
  have y5 := fz 5
  have hclr : ∀ ty cc, (Builtin.clear_ #[194] ty #[.slice (some ⟨g, 4, none⟩) 1 cc]).run Tryz.prog W5 = .ok (.tuple #[]) (W5.setCells g 4 [.int .i64 0, .int .u64 0]) := fun ty cc => run_clear_pr1 W5 ty g 4 cc (by rw [a4]; rfl) (by rw [a5]; rfl) y4 y5
  clear a0 a1 a2 a3 a4 a5 fz y4 y5
  go_wp2
  go_ret
  refine ⟨g, c, rfl, rfl, ?_, ?_⟩
  · exact ((HR5.out.cut 2 (by simp)).setFar 4 (by simp) (.int .i64 0)).setFar 5 (by simp) (.int .u64 0)
  · exact (HK5.out.setCell (.inl (by simp)) _).setCell (.inl (by simp)) _
end Go.Proofs.YtnhlachoimlhhaaGreatDoor

namespace Go.Proofs.YtnhlachoimlhhaaGreatDoor
open Go.ChangeShapes Go.WideShapes Go.ChangeAt Go.RowKit
set_option linter.unusedVariables false
set_option linter.unusedSimpArgs false

set_option maxHeartbeats 2000000 in
set_option maxRecDepth 100000 in
/-- An Update, and the first one of two that were there is too old. -/
theorem rsetUpdate_drop2 (p0 q0 : Pr) (x : Nat) (now r : Int) (hlast : q0.1 ≤ max 0 (min now 4611686018427387904)) (hkeep : max 0 (min now 4611686018427387904) - 2 * max 0 (min r 1099511627776) ≤ q0.1)
    (hall : p0.1 < max 0 (min now 4611686018427387904) - 2 * max 0 (min r 1099511627776)) (P : Nat) (v : Value) (w : World) (h : SetAt [p0, q0] P v w) :
    Calls Tryz.prog 199 #[.pointer (some ⟨P, 0, none⟩), .int .u64 x, .int .i64 now, .int .i64 r] w fun e w' => e = .returned (.tuple #[]) ∧ ∃ g c, SetAt [q0, (max 0 (min now 4611686018427387904), x)] P (.slice (some ⟨g, 0, none⟩) 2 c) w' ∧ Kept (P :: own v) w w' ∧ (v.ownBlock = some g ∨ w.heap.size ≤ g) := by
  have HN := Lib.hid (fun W => rsetWithin_any now 4611686018427387904 (by decide) W)
  have HRr := Lib.hid (fun W => rsetWithin_any r 1099511627776 (by decide) W)
  obtain ⟨A, hA⟩ : ∃ A, max 0 (min now 4611686018427387904) = A := ⟨_, rfl⟩
  obtain ⟨R, hR⟩ : ∃ A, max 0 (min r 1099511627776) = A := ⟨_, rfl⟩
  have hAb : 0 ≤ A ∧ A ≤ 4611686018427387904 := by omega
  have hRb : 0 ≤ R ∧ R ≤ 1099511627776 := by omega
  rw [hA] at HN hlast hall hkeep ⊢
  rw [hR] at HRr hall hkeep
  obtain ⟨a0, a1⟩ := hAb
  obtain ⟨r0, r1⟩ := hRb
  have HH := Lib.hid h
  have HLAST := Lib.hid hlast
  have HALL := Lib.hid hall
  have HKEEP := Lib.hid hkeep
  obtain ⟨L, hL⟩ : ∃ L, A - 2 * R = L := ⟨_, rfl⟩
  have HLe := Lib.hid hL
  have HPUT : Hid (∀ W, SetAt [p0, q0] P v W → _) := Lib.hid (fun W hW => rsetPut_end [p0, q0] (by simp) (by simp) (A, x) (by simpa using hlast) P v W hW)
  have HBOX : Hid (BlkIs #[.int .i64 L] 2 w.heap.size (w.alloc (.cells #[.int .i64 L] 2))) := Lib.hid (BlkIs.new _ _ _)
  have HSB : Hid (SetAt [p0, q0] P v (w.alloc (.cells #[.int .i64 L] 2))) := Lib.hid (HH.out.below (bel_alloc _ _))
  have hPlt := h.set.lt
  clear hA hR hlast hall hkeep h
  go_enter Tryz.func199, Tryz.ntmps199
  go_upto_region 3 with (first
    | (go_at_call 220; (with_reducible refine (HN.out _).mono ?_); rintro e w1 ⟨rfl, rfl⟩)
    | (go_at_call 220; (with_reducible refine (HRr.out _).mono ?_); rintro e w1 ⟨rfl, rfl⟩))
  obtain ⟨W1, hW1⟩ : ∃ W1, w.alloc (.cells #[.int .i64 L] 2) = W1 := ⟨_, rfl⟩
  rw [hW1] at HBOX HSB ⊢
  have HK1 : Hid (Kept [] w W1) := Lib.hid (by rw [← hW1]; exact Kept.of_below _ (bel_alloc _ _))
  have HSZ : Hid (P < w.heap.size ∧ w.heap.size < W1.heap.size ∧ ∀ g, v.ownBlock = some g → g < w.heap.size) := Lib.hid ⟨hPlt, by rw [← hW1]; simp, fun g hg => (HH.out.row.lt g hg).2⟩
  clear hW1 hPlt hL
  obtain ⟨B, hB⟩ : ∃ B, w.heap.size = B := ⟨_, rfl⟩
  rw [hB] at HBOX HSZ ⊢
  have HBe := Lib.hid hB
  clear hB
  go_upto_region 4 with (go_at_call 221; (with_reducible refine (HPUT.out _ HSB.out).mono ?_); rintro e W2 ⟨rfl, g, c, hs2, hk2, hat2⟩)
  have HB2 : Hid (BlkIs #[.int .i64 L] 2 B W2) := Lib.hid (HBOX.out.kept hk2 (by
    have h1 := HSZ.out
    intro hm
    rcases List.mem_cons.1 hm with h2 | h2
    · omega
    · have h3 : v.ownBlock = some B := by
        unfold own at h2
        cases hv : v.ownBlock with
        | none => rw [hv] at h2; simp at h2
        | some q => rw [hv] at h2; simp at h2; rw [h2]
      have := h1.2.2 B h3
      omega))
  have HS2 := Lib.hid hs2
  have HK2 : Hid (Kept (P :: own v) w W2) := Lib.hid ((HK1.out.more (fun x hx => by cases hx)).trans' hk2)
  have HAT : Hid (v.ownBlock = some g ∨ w.heap.size ≤ g) := Lib.hid (by
    rcases hat2 with h | h
    · exact .inl h
    · exact .inr (Nat.le_trans HK1.out.size h))
  have hgb : ∀ q, (Value.slice (some ⟨g, 0, none⟩) 3 c).ownBlock = some q → q ≠ B := fun q hq => by
    have e : g = q := by simpa [Value.ownBlock] using hq
    subst e
    intro e2
    subst e2
    have h1 := HB2.out.lt
    rcases hat2 with h | h
    · have := HSZ.out.2.2 _ h; omega
    · have := HSZ.out; omega
  have HDEL := Lib.hid (deleteFunc_first3 p0 q0 (A, x) (.slice (some ⟨g, 0, none⟩) 3 c) B L W2 hs2.row (BlkIs.cell HB2.out 0) hgb (by have h4 := HLe.out; have h5 := HALL.out; omega) (by have h4 := HLe.out; have h5 := HKEEP.out; omega) (by have h4 := HLe.out; simp only; omega))
  have c0 : W2.cell? ⟨P, 0, none⟩ = some (.slice (some ⟨g, 0, none⟩) 3 c) := BlkIs.cell hs2.set 0
  have HPG : Hid (g ≠ P) := Lib.hid (hs2.ne g rfl)
  have HST2 := Lib.hid hs2.set
  have hcap : 3 ≤ c ∧ c ≤ 9223372036854775807 := by
    obtain ⟨g', c', e1, e2, e3, _⟩ := hs2.row.shape (by simp)
    injection e1 with _ _ e4
    simp at e2
    omega
  obtain ⟨hcap1, hcap2⟩ := hcap
  clear hs2 hk2 hat2 hgb HPUT HSB HBOX
  have HDL := Lib.hid (fun W => deletePr_none g 2 c (by omega) hcap2 W)
  go_upto_region 5 with (go_at_call 222; (with_reducible refine HDEL.out.mono ?_); rintro e W3 ⟨g3, c3, e3, rfl, hr3, hk3⟩; injection e3 with e3 _ e4; injection e3 with e3; injection e3 with e3; subst e3 e4; have hs3 := BlkIs.kept HST2.out hk3 (by simp; exact fun e => HPG.out e.symm); have f3 := BlkIs.free hs3 0; have c3 : W3.cell? ⟨P, 0, none⟩ = some (.slice (some ⟨g, 0, none⟩) 3 c) := BlkIs.cell hs3 0)
  obtain ⟨W4, hW4⟩ : ∃ W4, W3.setCell ⟨P, 0, none⟩ (.slice (some ⟨g, 0, none⟩) 2 c) = W4 := ⟨_, rfl⟩
  have HS4 : Hid (SetAt [q0, (A, x)] P (.slice (some ⟨g, 0, none⟩) 2 c) W4) := Lib.hid (by
    rw [← hW4]
    exact ⟨BlkIs.set hs3 0 _, hr3.kept ((Kept.refl [P] W3).setCell (.inl (by simp)) _) (fun q hq => by
      have : g = q := by simpa [Value.ownBlock] using hq
      have := HPG.out
      simp; omega)⟩)
  have HK4 : Hid (Kept (P :: own v) w W4 ∨ w.heap.size ≤ g ∧ Kept (P :: g :: own v) w W4) := Lib.hid (by
    rw [← hW4]
    rcases HAT.out with h | h
    · left
      exact (HK2.out.trans' (hk3.more (fun z hz => by simp at hz; subst hz; simp [own, h]))).setCell (.inl (by simp)) _
    · right
      exact ⟨h, ((HK2.out.more (fun z hz => by simp at hz ⊢; rcases hz with hz | hz; exact .inl hz; exact .inr (.inr hz))).trans' (hk3.more (by simp))).setCell (.inl (by simp)) _⟩)
  rw [hW4]
  clear hW4 hs3 f3 c3 hk3 hr3 c0
  have c4 : W4.cell? ⟨P, 0, none⟩ = some (.slice (some ⟨g, 0, none⟩) 2 c) := BlkIs.cell HS4.out.set 0
  have f4 := BlkIs.free HS4.out.set 0
  have i5 : decide ((0 : Int) < (2 : Int) - 8) = false := by decide
  have HKF : Hid (Kept (P :: own v) w W4) := Lib.hid (by
    rcases HK4.out with h | ⟨h, k⟩
    · exact h
    · exact ⟨k.os, k.tape, k.output, k.size, fun z hz hn => k.block z hz (fun hm => by
        rcases List.mem_cons.1 hm with e | e
        · exact hn (by simp [e])
        · rcases List.mem_cons.1 e with e | e
          · omega
          · exact hn (by simp [e]))⟩)
  go_wp2
  go_region_with (go_at_call 224; (first | (with_reducible refine (HDL.out _).mono ?_) | (simp only [show max (0 : Int) (IntKind.i64.wrap (-6)) = 0 by decide]; with_reducible refine (HDL.out _).mono ?_)); rintro e w1 ⟨rfl, rfl⟩)
  all_goals
    go_wp2
    go_end0
    refine ⟨rfl, g, c, ?_, (HKF.out.setCell (.inl (by simp)) _).drew, HAT.out⟩
    exact ⟨BlkIs.set HS4.out.set 0 _, HS4.out.row.kept (((Kept.refl [P] W4).setCell (.inl (by simp)) _).drew) (fun q hq => by
      have : g = q := by simpa [Value.ownBlock] using hq
      have := HPG.out
      simp; omega)⟩
end Go.Proofs.YtnhlachoimlhhaaGreatDoor

namespace Go.Proofs.YtnhlachoimlhhaaGreatDoor
open Go.ChangeShapes Go.WideShapes Go.ChangeAt Go.RowKit
set_option linter.unusedVariables false
set_option linter.unusedSimpArgs false

/-- (The kernel tries the arguments of two projections alike first, so a struct that is turned in part is opened before its bounds are told.) -/
theorem TfS.nl_ok (s : TfS) (hs : s.ok) (R : Nat) (N : Int) (i rn p : Nat) (h1 : rn < 18446744073709551616) (h2 : (R : Int) ≤ 4294967296) (h3 : p ≤ 4294967296) (h4 : 0 ≤ N ∧ N ≤ 4611686018427387904) : ({ ({ s with rtt := R, rate := i, doubled := N } : TfS) with loss := p, rate := rn } : TfS).ok := by
  cases s
  exact ⟨hs.b0, h1, ⟨by show (0 : Int) ≤ (R : Int); omega, h2⟩, h3, h4⟩
theorem TfS.nd_ok (s : TfS) (hs : s.ok) (R : Nat) (N : Int) (rn p : Nat) (h1 : rn < 18446744073709551616) (h2 : (R : Int) ≤ 4294967296) (h3 : p ≤ 4294967296) (h4 : 0 ≤ N ∧ N ≤ 4611686018427387904) : ({ ({ s with rtt := R } : TfS) with loss := p, rate := rn, doubled := N } : TfS).ok := by
  cases s
  exact ⟨hs.b0, h1, ⟨by show (0 : Int) ≤ (R : Int); omega, h2⟩, h3, h4⟩
theorem TfS.nr_ok (s : TfS) (hs : s.ok) (R i : Nat) (N : Int) (h1 : i < 18446744073709551616) (h2 : (R : Int) ≤ 4294967296) (h4 : 0 ≤ N ∧ N ≤ 4611686018427387904) : ({ s with rtt := R, rate := i, doubled := N } : TfS).ok := by
  cases s
  exact ⟨hs.b0, h1, ⟨by show (0 : Int) ≤ (R : Int); omega, h2⟩, hs.b3, h4⟩
theorem TfS.ns_ok (s : TfS) (hs : s.ok) (R : Nat) (h2 : (R : Int) ≤ 4294967296) : ({ s with rtt := R } : TfS).ok := by
  cases s
  exact ⟨hs.b0, hs.b1, ⟨by show (0 : Int) ≤ (R : Int); omega, h2⟩, hs.b3, hs.b4⟩
theorem TfS.run_ok {s : TfS} (h : s.ok) (d : Int) : (s.run d).ok := ⟨h.b0, h.b1, h.b2, h.b3, h.b4⟩
theorem TfS.run_size (s : TfS) (d : Int) : (s.run d).size = s.size := by cases s; rfl
theorem TfS.run_rate (s : TfS) (d : Int) : (s.run d).rate = s.rate := by cases s; rfl
theorem TfS.run_rtt (s : TfS) (d : Int) : (s.run d).rtt = s.rtt := by cases s; rfl
theorem TfS.run_loss (s : TfS) (d : Int) : (s.run d).loss = s.loss := by cases s; rfl
theorem TfS.run_doubled (s : TfS) (d : Int) : (s.run d).doubled = s.doubled := by cases s; rfl
end Go.Proofs.YtnhlachoimlhhaaGreatDoor

namespace Go.Proofs.YtnhlachoimlhhaaGreatDoor
open Go.ChangeShapes Go.WideShapes Go.ChangeAt Go.RowKit
set_option linter.unusedVariables false
set_option linter.unusedSimpArgs false

set_option maxHeartbeats 1000000 in
/-- What was told, behind the one that stays. -/
theorem tfLimit_drop2 (s : TfS) (hs : s.ok) (p0 q0 : Pr) (hq0 : q0.2 < 18446744073709551616) (now : Int) (x p : Nat) (hx : x < 18446744073709551616)
    (hlast : q0.1 ≤ max 0 (min now 4611686018427387904)) (hkeep : max 0 (min now 4611686018427387904) - 2 * max 0 (min s.rtt 1099511627776) ≤ q0.1)
    (hall : p0.1 < max 0 (min now 4611686018427387904) - 2 * max 0 (min s.rtt 1099511627776)) (C P : Nat) (v : Value) (w : World) (h : TfAt s [p0, q0] C P v w) :
    Calls Tryz.prog 177 #[.pointer (some ⟨C, 0, none⟩), .int .i64 now, .int .u64 x, .int .u64 p, .bool false] w fun e w' => e = .returned (.int .u64 (M.mulT 2 (M.maxPr [q0, (max 0 (min now 4611686018427387904), x)]))) ∧
      ∃ v', TfAt s [q0, (max 0 (min now 4611686018427387904), x)] C P v' w' ∧ Kept (P :: own v) w w' ∧ (v'.ownBlock = v.ownBlock ∨ ∃ g, v'.ownBlock = some g ∧ w.heap.size ≤ g) := by
  have c2 : w.cell? ⟨C, 2, none⟩ = some (.int .i64 s.rtt) := BlkIs.cell h.tf 2
  have c4 : w.cell? ⟨C, 4, none⟩ = some (.pointer (some ⟨P, 0, none⟩)) := BlkIs.cell h.tf 4
  have HH := Lib.hid h
  have HU : Hid (∀ W, SetAt [p0, q0] P v W → _) := Lib.hid (fun W hW => rsetUpdate_drop2 p0 q0 x now s.rtt hlast hkeep hall P v W hW)
  obtain ⟨q, hq⟩ : ∃ q, (max 0 (min now 4611686018427387904), x) = q := ⟨_, rfl⟩
  rw [hq] at HU ⊢
  have hM : M.maxPr [q0, q] < 18446744073709551616 := M.maxPr_lt _ (fun p hp => by
    simp at hp
    rcases hp with hp | hp
    · rw [hp]; exact hq0
    · rw [hp, ← hq]; exact hx)
  have HMX : Hid (∀ P v W, SetAt [q0, q] P v W → _) := Lib.hid (fun P v W hW => rsetMax_any [q0, q] (by simp) (by simp) P v W hW)
  have HMU : Hid (∀ W, Calls Tryz.prog 88 #[.int .u64 2, .int .u64 (M.maxPr [q0, q])] W fun e w' => e = .returned (.int .u64 (M.mulT 2 (M.maxPr [q0, q]))) ∧ W = w') := Lib.hid (fun W => fixMul_any 2 _ (by decide) hM W)
  have HNC : Hid (C ∉ P :: own v) := Lib.hid (by
    intro hm
    rcases List.mem_cons.1 hm with h1 | h1
    · exact h.ne h1
    · unfold own at h1
      cases hv : v.ownBlock with
      | none => rw [hv] at h1; simp at h1
      | some g => rw [hv] at h1; simp at h1; exact h.ne2 g hv h1.symm)
  generalize M.mulT 2 (M.maxPr [q0, q]) = R at *
  generalize M.maxPr [q0, q] = m at *
  clear h hs hlast hall hkeep hq0
  go_enter Tryz.func177, Tryz.ntmps177
  go_wp2
  have HDR : Hid (∀ n, SetAt [p0, q0] P v (w.drewN n)) := Lib.hid (fun n => HH.out.set.drewN n)
  have HD1 : Hid (SetAt [p0, q0] P v w.drew) := Lib.hid ⟨HH.out.set.set, HH.out.set.row⟩
  go_region_with ((go_at_call 199; (with_reducible refine (HU.out _ ?_).mono ?_); (exact HD1.out); rintro e W2 ⟨rfl, g, c, hs2, hk2, hat2⟩; have HT2 : Hid (BlkIs (tfCells s P) 129 C W2) := Lib.hid (BlkIs.kept (BlkIs.drewN HH.out.tf 1) hk2 HNC.out); have c4' : W2.cell? ⟨C, 4, none⟩ = some (.pointer (some ⟨P, 0, none⟩)) := BlkIs.cell HT2.out 4))
  all_goals
    go_wp2_with (first
      | (go_at_call 150; (with_reducible refine (HMX.out _ _ _ hs2).mono ?_); rintro e W3 ⟨rfl, hb3⟩)
      | (go_at_call 88; (with_reducible refine (HMU.out _).mono ?_); rintro e W4 ⟨rfl, rfl⟩))
    go_ret
    have hk3 : Kept (P :: own v) w W3 := ((Kept.refl (P :: own v) w).drew.trans' hk2).trans' (Kept.of_below _ hb3)
    refine ⟨rfl, _, ⟨HT2.out.below hb3, hs2.below hb3, HH.out.ne, ?_⟩, hk3, ?_⟩
    · intro q hq
      have hgq : g = q := by simpa [Value.ownBlock] using hq
      subst hgq
      rcases hat2 with h1 | h1
      · exact HH.out.ne2 g h1
      · have := HH.out.tf.lt; have h3 : w.heap.size ≤ g := h1; omega
    · rcases hat2 with h1 | h1
      · exact .inl (by rw [h1]; rfl)
      · exact .inr ⟨g, rfl, h1⟩
end Go.Proofs.YtnhlachoimlhhaaGreatDoor

namespace Go.Proofs.YtnhlachoimlhhaaGreatDoor
open Go.ChangeShapes Go.WideShapes Go.ChangeAt Go.RowKit
set_option linter.unusedVariables false
set_option linter.unusedSimpArgs false

/-- Behind a Hear at T (none yet: 0), each of them R behind what was sent, and so much told. -/
structure NlI (S R X : Nat) (T : Int) (rt : Nat) (l : List Pr) (t : TfS) : Prop where
  ok : t.ok
  size : t.size = S
  loss : t.loss = 0
  rate : t.rate = rt
  top : rt ≤ 2 * X
  alt : (T = 0 ∧ t.rtt = 0 ∧ l = [(0, 18446744073709551615)]) ∨ (t.rtt = (R : Int) ∧ t.doubled = T ∧ ∃ a y, l = [(a, y), (T, X)] ∧ a ≤ T - ((R : Int) + 1) ∧ y < 18446744073709551616)
theorem M.tfInit_small (S R : Nat) (h : S ≤ 1400) (hR : 1000 ≤ R) : M.tfInit S R ≤ 2199023255552 := by
  unfold M.tfInit
  have h1 : 64 * min (4 * S) (max (2 * S) 4380) * 1000000 ≤ 64 * 5600 * 1000000 := Nat.mul_le_mul_right _ (Nat.mul_le_mul_left _ (by omega))
  have h2 : 64 * min (4 * S) (max (2 * S) 4380) * 1000000 / R ≤ 64 * 5600 * 1000000 / 1000 := Nat.div_le_div h1 hR (by decide)
  omega
set_option maxHeartbeats 4000000 in
theorem NlI.next {S R X : Nat} (hXl : 1099511627776 ≤ X) (hXu : X ≤ 1125899906842624) {T : Int} {rt : Nat} {l : List Pr} {t : TfS} (h : NlI S R X T rt l t) (hS1 : 1 ≤ S) (hS2 : S ≤ 1400) (hR1 : 1000 ≤ R) (hR2 : R ≤ 2000000) (hT : 0 ≤ T ∧ T ≤ 100000000) (N : Int) (hN : N = T + (R : Int) + 1) :
    ∃ rt' l' t', NlI S R X N rt' l' t' ∧ (T = 0 ∨ rt ≤ rt') ∧ ∀ (C P : Nat) (v : Value) (w : World), TfAt t l C P v w →
    Calls Tryz.prog 141 #[.pointer (some ⟨C, 0, none⟩), .int .i64 N, .int .i64 R, .int .u64 X, .int .u64 0, .bool false] w fun e w' => e = .returned (.tuple #[]) ∧
      ∃ v', TfAt t' l' C P v' w' ∧ Kept (C :: P :: own v) w w' ∧ (v'.ownBlock = v.ownBlock ∨ ∃ g, v'.ownBlock = some g ∧ w.heap.size ≤ g) := by
  have hs := h.ok
  have hR : max 1 (min (R : Int) 4294967296) = (R : Int) := by omega
  have hNN : max 0 (min N 4611686018427387904) = N := by omega
  have hI := M.tfInit_small S R hS2 hR1
  have hX : min X 1125899906842624 = X := by omega
  have hb0 := hs.b0
  have hb1 := hs.b1
  have hsz := h.size
  have htop := h.top
  have hrt := h.rate
  rcases h.alt with ⟨hT0, hr0, hl⟩ | ⟨hr0, hdb, a, y, hl, ha, hy⟩
  · subst hl
    obtain ⟨s1, hs1⟩ : ∃ s1, ({ t with rtt := R, rate := M.tfInit t.size R, doubled := N } : TfS) = s1 := ⟨_, rfl⟩
    have ok1 : s1.ok := by rw [← hs1]; exact TfS.nr_ok t hs R _ N (by rw [hsz]; omega) (by omega) (by omega)
    have r1 : s1.rtt = (R : Int) := by rw [← hs1]
    have hlim : ∀ C P v, LimIs s1 [(0, 18446744073709551615)] C P v N X 0 false (M.mulT 2 (M.maxPr ([(0, 18446744073709551615)] ++ [(N, X)]))) ([(0, 18446744073709551615)] ++ [(N, X)]) := fun C P v W hW => by
      have h9 := tfLimit_upd s1 ok1 [(0, 18446744073709551615)] (by decide) (by decide) (by simp) N X 0 (by omega) (by rw [hNN]; show (0 : Int) ≤ N; omega) (fun i hi => by
        have : i = 0 := by simpa using hi
        subst this
        rw [hNN, r1, List.getD_cons_zero]
        show _ ≤ (0 : Int)
        omega) C P v W hW
      rw [hNN] at h9
      exact h9
    have h9 := fun (C P : Nat) (v : Value) (w : World) (hw : TfAt t [(0, 18446744073709551615)] C P v w) => tfHear_first_none t hs N R X (by omega) N hNN R hR hr0 X hX (by omega) false _ _ _ (mulT_ltK 2 _) C P v w hw (by rw [hs1]; exact hlim C P v)
    obtain ⟨u, hu⟩ : ∃ u, ({ ({ t with rtt := R, rate := M.tfInit t.size R, doubled := N } : TfS) with loss := 0, rate := max (M.tfInit t.size R) t.size } : TfS) = u := ⟨_, rfl⟩
    have u0 : u.ok := by rw [← hu]; exact TfS.nl_ok t hs R N _ _ _ (by rw [hsz]; omega) (by omega) (by omega) (by omega)
    have u1 : u.rtt = (R : Int) := by rw [← hu]
    have u2 : u.loss = 0 := by rw [← hu]
    have u3 : u.size = S := by rw [← hu]; exact hsz
    have u4 : u.rate = max (M.tfInit S R) S := by rw [← hu, ← hsz]
    have u5 : u.doubled = N := by rw [← hu]
    rw [hu] at h9
    clear hu hlim hs1
    refine ⟨max (M.tfInit S R) S, _, u.run (M.tfDue (M.tfWait u) N), ⟨TfS.run_ok u0 _, (TfS.run_size u _).trans u3, (TfS.run_loss u _).trans u2, (TfS.run_rate u _).trans u4, by omega, .inr ⟨(TfS.run_rtt u _).trans u1, (TfS.run_doubled u _).trans u5, 0, 18446744073709551615, rfl, by omega, by decide⟩⟩, .inl hT0, h9⟩
  · subst hl
    obtain ⟨s1, hs1⟩ : ∃ s1, ({ t with rtt := R } : TfS) = s1 := ⟨_, rfl⟩
    have ok1 : s1.ok := by rw [← hs1]; exact TfS.ns_ok t hs R (by omega)
    have r1 : s1.rtt = (R : Int) := by rw [← hs1]
    have hmx : M.mulT 2 (M.maxPr [(T, X), (N, X)]) = (2 * X) := by
      have e : M.maxPr [(T, X), (N, X)] = X := by unfold M.maxPr; simp
      rw [e]
      exact M.mulT_at _ _ (by omega)
    have hlim : ∀ C P v, LimIs s1 [(a, y), (T, X)] C P v N X 0 false (2 * X) [(T, X), (N, X)] := fun C P v W hW => by
      have h9 := tfLimit_drop2 s1 ok1 (a, y) (T, X) (by show X < _; omega) N X 0 (by omega) (by rw [hNN]; show T ≤ N; omega) (by rw [hNN, r1]; show _ ≤ T; omega) (by rw [hNN, r1]; show a < _; omega) C P v W hW
      rw [hNN, hmx] at h9
      exact h9
    have h9 := fun (C P : Nat) (v : Value) (w : World) (hw : TfAt t [(a, y), (T, X)] C P v w) => tfHear_later_dbl t hs N R X (by omega) N hNN R hR (by omega) R (by omega) X hX (by rw [hdb]; omega) false _ _ _ (by omega : 2 * X < 18446744073709551616) C P v w hw (by rw [hs1]; exact hlim C P v)
    have hm2 : M.mulT 2 t.rate = 2 * rt := by rw [hrt]; exact M.mulT_at _ _ (by omega)
    have hin : M.tfInit t.size R = M.tfInit S R := by rw [hsz]
    rw [hm2, hin] at h9
    obtain ⟨rn, hrn⟩ : ∃ rn, max (max (min (2 * rt) (2 * X)) (M.tfInit S R)) t.size = rn := ⟨_, rfl⟩
    rw [hrn] at h9
    obtain ⟨u, hu⟩ : ∃ u, ({ ({ t with rtt := R } : TfS) with loss := 0, rate := rn, doubled := N } : TfS) = u := ⟨_, rfl⟩
    have u0 : u.ok := by rw [← hu]; exact TfS.nd_ok t hs R N _ _ (by omega) (by omega) (by omega) (by omega)
    have u1 : u.rtt = (R : Int) := by rw [← hu]
    have u2 : u.loss = 0 := by rw [← hu]
    have u3 : u.size = S := by rw [← hu]; exact hsz
    have u4 : u.rate = rn := by rw [← hu]
    have u5 : u.doubled = N := by rw [← hu]
    rw [hu] at h9
    clear hu hlim hs1
    exact ⟨rn, _, u.run (M.tfDue (M.tfWait u) N), ⟨TfS.run_ok u0 _, (TfS.run_size u _).trans u3, (TfS.run_loss u _).trans u2, (TfS.run_rate u _).trans u4, by omega, .inr ⟨(TfS.run_rtt u _).trans u1, (TfS.run_doubled u _).trans u5, T, X, rfl, by omega, by omega⟩⟩, .inr (by omega), h9⟩
theorem NlI.start {S R X : Nat} {T : Int} {rt : Nat} {l : List Pr} {t : TfS} (h : NlI S R X T rt l t) (now : Int) : NlI S R X T rt l (t.start now) := by
  unfold TfS.start
  split
  · exact h
  · exact ⟨⟨h.ok.b0, h.ok.b1, h.ok.b2, h.ok.b3, h.ok.b4⟩, h.size, h.loss, h.rate, h.top, h.alt⟩
end Go.Proofs.YtnhlachoimlhhaaGreatDoor

namespace Go.Proofs.YtnhlachoimlhhaaGreatDoor
open Go.ChangeShapes Go.WideShapes Go.ChangeAt Go.RowKit
set_option linter.unusedVariables false
set_option linter.unusedSimpArgs false

end Go.Proofs.YtnhlachoimlhhaaGreatDoor

namespace Go.Proofs.YtnhlachoimlhhaaGreatDoor
open Go.ChangeShapes Go.WideShapes Go.ChangeAt Go.RowKit
set_option linter.unusedVariables false
set_option linter.unusedSimpArgs false

theorem and1_i64 (n : Int) : bits .and .i64 n 1 = 0 ∨ bits .and .i64 n 1 = 1 := by
  have h : (BitVec.ofInt 64 n &&& BitVec.ofInt 64 1).toNat ≤ 1 := by
    rw [BitVec.toNat_and, show (BitVec.ofInt 64 1).toNat = 1 by decide, Nat.and_one_is_mod]
    omega
  have e : bits .and .i64 n 1 = IntKind.i64.wrap ((BitVec.ofInt 64 n &&& BitVec.ofInt 64 1).toNat : Int) := rfl
  rw [e, IntKind.wrap_i64]
  omega
theorem kbW {w W W' : World} {K C D : Nat} (h : Below w.heap.size w W) (k : Kept [C, D] W W') (hC : w.heap.size ≤ C) (hD : w.heap.size ≤ D) : Below w.heap.size w W' := h.trans (k.below h.size (by intro x hx; simp at hx; omega))
end Go.Proofs.YtnhlachoimlhhaaGreatDoor

namespace Go.Proofs.YtnhlachoimlhhaaGreatDoor
open Go.ChangeShapes Go.WideShapes Go.ChangeAt Go.RowKit
set_option linter.unusedVariables false
set_option linter.unusedSimpArgs false

set_option maxHeartbeats 16000000 in
set_option maxRecDepth 100000 in
theorem ctrlNoLoss_rate (kind sz rz nz : Int) (hkd : bits .and .i64 kind 1 = 1) (s1 : -9223372036854775808 ≤ sz) (s2 : sz ≤ 9223372036854775807) (n1 : -9223372036854775808 ≤ nz) (n2 : nz ≤ 9223372036854775807) (w : World)
    (hbg : Calls Tryz.prog 14 #[] w fun e w' => e = .returned (.bool true) ∧ Below w.heap.size w w') :
    Calls Tryz.prog 12 #[.int .i64 kind, .int .i64 sz, .int .i64 rz, .int .i64 nz] w fun e w' => e = .returned (.bool true) ∧ Below w.heap.size w w' := by
  have HBG := Lib.hid hbg
  clear hbg
  obtain ⟨u0, e0, e01, e02, S0, e03, e04⟩ := mod_at sz 1400 (by decide)
  obtain ⟨v0, f0, f01, f02, J, f03, f04⟩ := mod_at nz 20 (by decide)
  obtain ⟨S, hS⟩ : ∃ S : Nat, 1 + (S0 : Int) = (S : Int) := ⟨1 + S0, by omega⟩
  have hS1 : 1 ≤ S := by omega
  have hS2 : S ≤ 1400 := by omega
  obtain ⟨r0, hr0⟩ : ∃ r0, min rz 1048576 = r0 := ⟨_, rfl⟩
  obtain ⟨r1, hr1⟩ : ∃ r1, max 0 r0 = r1 := ⟨_, rfl⟩
  obtain ⟨t1, t2, _, t4, _⟩ := mni _ _ r0 hr0
  obtain ⟨t5, t6, t7, _, t8⟩ := mxi _ _ r1 hr1
  obtain ⟨R, hR⟩ : ∃ R : Nat, 1000 + r1 = (R : Int) := ⟨(1000 + r1).toNat, by omega⟩
  have hR1 : 1000 ≤ R := by omega
  have hR2 : R ≤ 1049576 := by omega
  have HOR := Lib.hid (fun W (hb : Below w.heap.size w W) => CrX.new S hS1 hS2 w W hb)
  go_enter Tryz.func12, Tryz.ntmps12
  go_upto_region 6 with (first
    | (go_at_call 14; (with_reducible refine HBG.out.mono ?_); rintro e w0 ⟨rfl, hb0⟩)
    | (go_at_call 30; (with_reducible refine (HOR.out _ hb0).mono ?_); rintro e w1 ⟨K, C, P, B, rfl, ha⟩))
  have HA := Lib.hid ha
  clear ha hb0 HOR HBG t1 t2 t4 t5 t6 t7 t8 hr0 hr1
  unfold crV at *
  have q1 := eqR_N
  have q3 := naR_Hear
  have q4 := meR_Hear
  have q5 := naR_Sent
  have q6 := meR_Sent
  have tok := tfFirst_ok S hS1 hS2
  go_wp2
  go_loopw [11, 12, 13, 14] (fun nw cw rv i wr => ∃ (k y rt : Nat) (l : List Pr) (t : TfS) (T : Int), i = .int .i64 (k : Int) ∧ nw = .int .i64 T ∧ cw = .int .i64 0 ∧ rv = .int .u64 (y : Int) ∧ k ≤ 2 + J ∧ (0 ≤ T ∧ T ≤ 1049577 * (k : Int)) ∧ (T = 0 ∧ y = 0 ∨ 0 < T ∧ y = rt) ∧ Hid (NlI S R 1099511627776 T rt l t) ∧ Hid (CrX t l K C P B w wr)) (fun _ _ _ i _ => 2 + J - (intOf i).toNat)
  case atStart => exact ⟨0, 0, 64 * S, _, tfFirst S, 0, rfl, rfl, rfl, rfl, Nat.zero_le _, ⟨by decide, by decide⟩, .inl ⟨rfl, rfl⟩, Lib.hid ⟨tok, rfl, rfl, rfl, by omega, .inl ⟨rfl, rfl, rfl⟩⟩, HA⟩
  case round =>
    obtain ⟨k, y, rt, l, t, T, rfl, rfl, rfl, rfl, hk, ⟨u1, u2⟩, hy, hs, hw⟩ := hrel
    by_cases hkJ : k < 2 + J
    · have hdk : decide ((k : Int) < 2 + (J : Int)) = true := decide_eq_true (by omega)
      obtain ⟨N, hN⟩ : ∃ N, T + (R : Int) + 1 = N := ⟨_, rfl⟩
      obtain ⟨rt', l', t', hn, hge, HH⟩ := (hs.out.start T).next (by decide) (by decide) hS1 hS2 hR1 (by omega) ⟨by omega, by omega⟩ N hN.symm
      have HS := Lib.hid (hw.out.sent hs.out.ok T 0 (by omega) k)
      have zok := (hs.out.start T).ok
      generalize t.start T = z at *
      have HHE : Hid (∀ (u0 u1 u2 u3 : Value) W, CrX z l K C P B w W → Calls Tryz.prog 360 #[.pointer (some ⟨K, 0, none⟩), .int .i64 N, .agg #[u0, u1, u2, u3, .int .i64 R], .int .u64 1099511627776, .int .u64 0] W fun e w' => e = .returned (.tuple #[]) ∧ CrX t' l' K C P B w w') := Lib.hid (fun u0 u1 u2 u3 W hW => CrX.hear hW zok N u0 u1 u2 u3 R (by omega) 1099511627776 0 hn.ok (fun v W hW => HH C P v W hW))
      have HRR : Hid (∀ W, CrX t' l' K C P B w W → Calls Tryz.prog 33 #[.iface 121 (.pointer (some ⟨K, 0, none⟩))] W fun e w' => e = .returned (.pointer (some ⟨C, 0, none⟩)) ∧ W = w') := Lib.hid (fun W hW => CrX.rateOf hW)
      have HTR : Hid (∀ W, CrX t' l' K C P B w W → Calls Tryz.prog 34 #[.pointer (some ⟨C, 0, none⟩)] W fun e w' => e = .returned (.int .u64 (rt' : Int)) ∧ W = w') := Lib.hid (fun W hW => by
        have h1 := CrX.rate hW hn.ok
        rw [hn.rate] at h1
        exact h1)
      have HW : Hid (∀ W, Calls Tryz.prog 31 #[.iface 121 (.pointer (some ⟨K, 0, none⟩))] W fun e w' => e = .returned (.tuple #[.pointer none, .bool false]) ∧ W = w') := Lib.hid (fun W => ctWindow_rate K W)
      have HN := Lib.hid hn
      have hyr : y ≤ rt' := by omega
      have hd1 : decide ((rt' : Int) < (y : Int)) = false := decide_eq_false (by omega)
      have hd2 : decide (rt' < y) = false := decide_eq_false (by omega)
      have hd3 : ¬ rt' < y := by omega
      have hwk : IntKind.u64.wrap (k : Int) = (k : Int) := by rw [IntKind.wrap_u64]; omega
      have hw1 : IntKind.i64.wrap ((R : Int) + 1) = (R : Int) + 1 := by rw [IntKind.wrap_i64]; omega
      have hw2 : IntKind.i64.wrap (T + ((R : Int) + 1)) = N := by rw [IntKind.wrap_i64]; omega
      have hT2 : 0 < N ∧ N ≤ 1049577 * ((k + 1 : Nat) : Int) := by omega
      clear hn HH zok hs hw hge hy hN
      go_upto_region 14 with (go_at_call 363; (with_reducible refine HS.out.mono ?_); rintro e w8 ⟨⟨sb, rfl⟩, h8⟩)
      go_upto_region 16 with (go_at_call 360; (with_reducible refine (HHE.out _ _ _ _ _ (h8.below (bel_alloc _ _))).mono ?_); rintro e w9 ⟨rfl, h9⟩)
      have H9 := Lib.hid h9
      clear h8 h9 HS HHE
      go_wp2_with (first
        | (go_at_call 31; (with_reducible refine (HW.out _).mono ?_); rintro e wq ⟨rfl, rfl⟩)
        | (go_at_call 33; (with_reducible refine (HRR.out _ H9.out).mono ?_); rintro e wq ⟨rfl, rfl⟩)
        | (go_at_call 34; (with_reducible refine (HTR.out _ H9.out).mono ?_); rintro e wq ⟨rfl, rfl⟩))
      refine ⟨⟨k + 1, rt', rt', l', t', N, by go_num, rfl, rfl, rfl, by omega, ⟨by omega, hT2.2⟩, .inr ⟨hT2.1, rfl⟩, HN, H9⟩, ?_⟩
      simp [intOf]; omega
    · have hdk : decide ((k : Int) < 2 + (J : Int)) = false := decide_eq_false (by omega)
      have HB := Lib.hid hw.out.bel
      clear hs hw
      go_wp2
      go_ret
      exact ⟨rfl, HB.out⟩
end Go.Proofs.YtnhlachoimlhhaaGreatDoor

namespace Go.Proofs.YtnhlachoimlhhaaGreatDoor
open Go.ChangeShapes Go.WideShapes Go.ChangeAt Go.RowKit
set_option linter.unusedVariables false
set_option linter.unusedSimpArgs false

/-- Behind k that were got. -/
structure ClI (k : Nat) (s : WinS) : Prop where
  ok : s.ok
  pipe : s.pipe = 0
  cwnd : s.cwnd = 3 + (k : Int)
  slow : s.slow = 1000000
  count : s.count = 0
  runs : s.runs = false
/-- One more that is sent and got. -/
theorem ClI.next {k : Nat} {s : WinS} (h : ClI k s) (hk : k ≤ 100) (n : Nat) (hn : n < 18446744073709551616) (d : Int) :
    ∃ s2, (((s.sent n d).less 1 0).grow ((1 : Nat) : Int)) = s2 ∧ (s.sent n d).ok ∧ ((s.sent n d).less 1 0).ok ∧ s2.ok ∧
      ((s.sent n d).less 1 0).count + (((1 : Nat) : Int) - ((s.sent n d).less 1 0).fast ((1 : Nat) : Int)) ≤ 2 * (((s.sent n d).less 1 0).cwnd + ((s.sent n d).less 1 0).fast ((1 : Nat) : Int)) ∧
      ∀ due, ClI (k + 1) ((s2.wrong false).clock due) := by
  obtain ⟨⟨a0, a1⟩, a2, a3, a4, a5, a6⟩ := h.ok
  have hp := h.pipe
  have hc := h.cwnd
  have hsl := h.slow
  have hco := h.count
  have hru := h.runs
  obtain ⟨cw, sl, pi, co, ln, lk, hn', hk', du, ru⟩ := s
  simp only at hp hc hsl hco hru a0 a1 a2 a3 a4 a5 a6
  subst hp hsl hco hru
  have e1 : (WinS.mk cw 1000000 0 0 ln lk hn' hk' du false).sent n d = WinS.mk cw 1000000 (0 + 1) 0 n true hn' hk' d true := by unfold WinS.sent; rw [if_neg (by simp)]
  rw [e1]
  have e2 : (WinS.mk cw 1000000 (0 + 1) 0 n true hn' hk' d true).less 1 0 = WinS.mk cw 1000000 0 0 n true hn' hk' d true := by unfold WinS.less; rfl
  rw [e2]
  have e3 : (WinS.mk cw 1000000 0 0 n true hn' hk' d true).fast ((1 : Nat) : Int) = 1 := by unfold WinS.fast; simp only; omega
  have e4 : (WinS.mk cw 1000000 0 0 n true hn' hk' d true).grow ((1 : Nat) : Int) = WinS.mk (cw + 1) 1000000 0 0 n true hn' hk' d true := by
    unfold WinS.grow
    rw [e3]
    rw [if_pos (by simp only; omega)]
    simp
  rw [e4, e3]
  refine ⟨_, rfl, ⟨⟨a0, a1⟩, a2, by simp only; omega, a4, hn, a6⟩, ⟨⟨a0, a1⟩, a2, by simp only; omega, a4, hn, a6⟩, ⟨by simp only; omega, a2, by simp only; omega, a4, hn, a6⟩, by simp only; omega, fun due => ?_⟩
  unfold WinS.wrong
  rw [if_neg (by simp)]
  unfold WinS.clock
  rw [if_neg (by simp)]
  unfold WinS.stop
  exact ⟨⟨by simp only; omega, a2, by simp only; omega, a4, hn, a6⟩, rfl, by simp only; omega, rfl, rfl, rfl⟩
set_option maxHeartbeats 16000000 in
set_option maxRecDepth 100000 in
theorem ctrlNoLoss_win (kind sz rz nz : Int) (hkd : bits .and .i64 kind 1 = 0) (s1 : -9223372036854775808 ≤ sz) (s2 : sz ≤ 9223372036854775807) (n1 : -9223372036854775808 ≤ nz) (n2 : nz ≤ 9223372036854775807) (w : World)
    (hbg : Calls Tryz.prog 14 #[] w fun e w' => e = .returned (.bool true) ∧ Below w.heap.size w w') :
    Calls Tryz.prog 12 #[.int .i64 kind, .int .i64 sz, .int .i64 rz, .int .i64 nz] w fun e w' => e = .returned (.bool true) ∧ Below w.heap.size w w' := by
  have HBG := Lib.hid hbg
  clear hbg
  obtain ⟨u0, e0, e01, e02, S0, e03, e04⟩ := mod_at sz 1400 (by decide)
  obtain ⟨v0, f0, f01, f02, J, f03, f04⟩ := mod_at nz 20 (by decide)
  obtain ⟨S, hS⟩ : ∃ S : Nat, 1 + (S0 : Int) = (S : Int) := ⟨1 + S0, by omega⟩
  have hS1 : 1 ≤ S := by omega
  have hS2 : S ≤ 1400 := by omega
  obtain ⟨r0, hr0⟩ : ∃ r0, min rz 1048576 = r0 := ⟨_, rfl⟩
  obtain ⟨r1, hr1⟩ : ∃ r1, max 0 r0 = r1 := ⟨_, rfl⟩
  obtain ⟨t1, t2, _, t4, _⟩ := mni _ _ r0 hr0
  obtain ⟨t5, t6, t7, _, t8⟩ := mxi _ _ r1 hr1
  obtain ⟨R, hR⟩ : ∃ R : Nat, 1000 + r1 = (R : Int) := ⟨(1000 + r1).toNat, by omega⟩
  have hR1 : 1000 ≤ R := by omega
  have hR2 : R ≤ 1049576 := by omega
  have HOW : Hid (∀ W, Calls Tryz.prog 30 #[.int .i64 2, .int .i64 S] W fun e w' => ∃ K C D, e = .returned (cwV K) ∧ CwAt WinS.init RttS.zero K C D w' ∧ W.heap.size ≤ K ∧ W.heap.size ≤ C ∧ W.heap.size ≤ D ∧ Below W.heap.size W w') := Lib.hid (fun W => ctOf_win S (by omega) (by omega) W)
  go_enter Tryz.func12, Tryz.ntmps12
  go_upto_region 6 with (first
    | (go_at_call 14; (with_reducible refine HBG.out.mono ?_); rintro e w0 ⟨rfl, hb0⟩)
    | (go_at_call 30; (with_reducible refine (HOW.out _).mono ?_); rintro e w1 ⟨K, C, D, rfl, ha, hK, hC, hD, hb1⟩))
  have HA := Lib.hid ha
  have HBL : Hid (Below w.heap.size w w1) := Lib.hid (bel_trans hb0 hb1)
  have HZ : Hid (w.heap.size ≤ K ∧ w.heap.size ≤ C ∧ w.heap.size ≤ D) := Lib.hid (by have := hb0.size; omega)
  clear ha hb0 hb1 hK hC hD HOW HBG t1 t2 t4 t5 t6 t7 t8 hr0 hr1
  unfold cwV at *
  have q1 := eqW_N
  have q3 := naW_Hear
  have q4 := meW_Hear
  have q5 := naW_Sent
  have q6 := meW_Sent
  go_wp2
  go_loopw [11, 12, 13, 14] (fun nw cw rv i wr => ∃ (k : Nat) (c : Int) (s : WinS) (t : RttS) (T : Int), i = .int .i64 (k : Int) ∧ nw = .int .i64 T ∧ cw = .int .i64 c ∧ rv = .int .u64 0 ∧ k ≤ 2 + J ∧ (0 ≤ T ∧ T ≤ 1049577 * (k : Int)) ∧ c ≤ 3 + (k : Int) ∧ Hid (ClI k s ∧ t.ok) ∧ Hid (CwAt s t K C D wr) ∧ Hid (Below w.heap.size w wr)) (fun _ _ _ i _ => 2 + J - (intOf i).toNat)
  case atStart => exact ⟨0, 0, WinS.init, RttS.zero, 0, rfl, rfl, rfl, rfl, Nat.zero_le _, ⟨by decide, by decide⟩, by decide, Lib.hid ⟨⟨WinS.ok_init, rfl, rfl, rfl, rfl, rfl⟩, RttS.ok_zero⟩, HA, HBL⟩
  case round =>
    obtain ⟨k, c, s, t, T, rfl, rfl, rfl, rfl, hk, ⟨u1, u2⟩, hc, hs, hw, hb⟩ := hrel
    by_cases hkJ : k < 2 + J
    · have hdk : decide ((k : Int) < 2 + (J : Int)) = true := decide_eq_true (by omega)
      obtain ⟨N, hN⟩ : ∃ N, T + (R : Int) + 1 = N := ⟨_, rfl⟩
      have HS := Lib.hid (cwSent_yes hw.out hs.out.1.ok (by have := hs.out.1.pipe; have := hs.out.1.cwnd; omega) hs.out.2 k (by omega) T (by omega) 0)
      obtain ⟨sx, x1, x2, x3, x4, x5, x6⟩ := hs.out.1.next (by omega) k (by omega) (M.winDue T t.rto)
      have tok2 : (t.heard R).ok := by
        unfold RttS.heard
        rw [if_pos (by omega)]
        exact hs.out.2.sample R
      have HHE : Hid (∀ (pG : Option Addr) (W : World), CwAt (s.sent k (M.winDue T t.rto)) t K C D W → Calls Tryz.prog 354 #[.pointer (some ⟨K, 0, none⟩), .int .i64 N, .agg #[.slice pG 1 1, .slice none 0 0, .slice none 0 0, .int .i64 0, .int .i64 R], .int .u64 1099511627776, .int .u64 0] W fun e w' => e = .returned (.tuple #[]) ∧ CwAt ((sx.wrong false).clock (M.winDue N (t.heard R).rto)) (t.heard R) K C D w' ∧ Kept [C, D] W w') := Lib.hid (fun pG W hW => cwHear_any hW N _ _ _ _ _ 1099511627776 0 (fun W2 _ hW2 => winHear_any (s.sent k (M.winDue T t.rto)) sx x2 t (t.heard R) hs.out.2 1 0 (by decide) (by decide) x3 x5 x1 x4 pG none 1 0 (.slice none 0 0) 0 R N (by omega) rfl false C D W2 hW2 (.inl ⟨rfl, rfl, by decide⟩)))
      have hz := x6 (M.winDue N (t.heard R).rto)
      have HZI := Lib.hid hz
      have HTK := Lib.hid tok2
      clear x1 x2 x3 x4 x5 x6
      generalize s.sent k (M.winDue T t.rto) = z at *
      generalize (sx.wrong false).clock (M.winDue N (t.heard R).rto) = s2' at *
      generalize t.heard R = t2' at *
      have HW : Hid (∀ W, CwAt s2' t2' K C D W → Calls Tryz.prog 31 #[.iface 117 (.pointer (some ⟨K, 0, none⟩))] W fun e w' => e = .returned (.tuple #[.pointer (some ⟨C, 0, none⟩), .bool true]) ∧ W = w') := Lib.hid (fun W hW => ctWindow_win hW)
      have HCW : Hid (∀ W, CwAt s2' t2' K C D W → Calls Tryz.prog 54 #[.pointer (some ⟨C, 0, none⟩)] W fun e w' => e = .returned (.int .i64 (3 + ((k + 1 : Nat) : Int))) ∧ W = w') := Lib.hid (fun W hW => by
        have h1 := winCwnd_any s2' t2' C D W hW.win
        rw [hz.cwnd] at h1
        exact h1)
      have hd1 : decide (3 + ((k + 1 : Nat) : Int) ≤ c) = false := decide_eq_false (by omega)
      have hwk : IntKind.u64.wrap (k : Int) = (k : Int) := by rw [IntKind.wrap_u64]; omega
      have hw1 : IntKind.i64.wrap ((R : Int) + 1) = (R : Int) + 1 := by rw [IntKind.wrap_i64]; omega
      have hw2 : IntKind.i64.wrap (T + ((R : Int) + 1)) = N := by rw [IntKind.wrap_i64]; omega
      have hT2 : 0 < N ∧ N ≤ 1049577 * ((k + 1 : Nat) : Int) := by omega
      clear hz tok2 hs hw hN
      obtain ⟨V, hV⟩ : ∃ V, 3 + ((k + 1 : Nat) : Int) = V := ⟨_, rfl⟩
      rw [hV] at HCW hd1
      go_upto_region 14 with (go_at_call 357; (with_reducible refine HS.out.mono ?_); rintro e w8 ⟨rfl, h8, k8⟩)
      have hb8 : Below w.heap.size w w8 := kbW (K := K) hb.out (k8.more (by simp)) HZ.out.2.1 HZ.out.2.2
      go_upto_region 16 with (go_at_call 354; (with_reducible refine (HHE.out _ _ (h8.below (bel_alloc _ _))).mono ?_); rintro e w9 ⟨rfl, h9, k9⟩)
      have H9 := Lib.hid h9
      have HB9 : Hid (Below w.heap.size w w9) := Lib.hid (kbW (K := K) (bel_trans hb8 (bel_alloc w8 _)) k9 HZ.out.2.1 HZ.out.2.2)
      clear h8 h9 k8 k9 hb8 hb HS HHE
      go_wp2_with (first
        | (go_at_call 31; (with_reducible refine (HW.out _ H9.out).mono ?_); rintro e wq ⟨rfl, rfl⟩)
        | (go_at_call 54; (with_reducible refine (HCW.out _ H9.out).mono ?_); rintro e wq ⟨rfl, rfl⟩))
      refine ⟨⟨k + 1, V, s2', t2', N, by go_num, rfl, rfl, rfl, by omega, ⟨by omega, hT2.2⟩, by omega, Lib.hid ⟨HZI.out, HTK.out⟩, H9, HB9⟩, ?_⟩
      simp [intOf]; omega
    · have hdk : decide ((k : Int) < 2 + (J : Int)) = false := decide_eq_false (by omega)
      clear hs hw
      go_wp2
      go_ret
      exact ⟨rfl, hb.out⟩
theorem ctrlNoLoss_walk (kind sz rz nz : Int) (s1 : -9223372036854775808 ≤ sz) (s2 : sz ≤ 9223372036854775807) (n1 : -9223372036854775808 ≤ nz) (n2 : nz ≤ 9223372036854775807) (w : World)
    (hbg : Calls Tryz.prog 14 #[] w fun e w' => e = .returned (.bool true) ∧ Below w.heap.size w w') :
    Calls Tryz.prog 12 #[.int .i64 kind, .int .i64 sz, .int .i64 rz, .int .i64 nz] w fun e w' => e = .returned (.bool true) ∧ Below w.heap.size w w' := by
  rcases and1_i64 kind with h | h
  · exact ctrlNoLoss_win kind sz rz nz h s1 s2 n1 n2 w hbg
  · exact ctrlNoLoss_rate kind sz rz nz h s1 s2 n1 n2 w hbg
end Go.Proofs.YtnhlachoimlhhaaGreatDoor
