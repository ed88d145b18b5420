/-
  Package tfrc: what they let the rate be who were limited.
  Package tfrc: Hear: the first one or a later one; with loss, doubling, or neither.
  Package rset: an Update of which the one that was there is too old.
  Package tfrc: the first time that something is heard, whatever it is.
  Package tfrc: the first Hear, whatever it tells.
  The law CtrlHear, walked (its opening handed in).
-/
import Derived.Test.YtnhlachoimlhhaaGreatDoorTfV
import Derived.Lib.SliceRun
import Derived.Test.YtnhlachoimlhhaaGreatDoorCtW
namespace Go.Proofs.YtnhlachoimlhhaaGreatDoor
open Go.ChangeShapes Go.WideShapes Go.ChangeAt Go.RowKit
set_option linter.unusedVariables false
set_option linter.unusedSimpArgs false

end Go.Proofs.YtnhlachoimlhhaaGreatDoor

namespace Go.Proofs.YtnhlachoimlhhaaGreatDoor
open Go.ChangeShapes Go.WideShapes Go.ChangeAt Go.RowKit
set_option linter.unusedVariables false
set_option linter.unusedSimpArgs false

/-- What limit does, of a rate as it stands. -/
def LimIs (s1 : TfS) (l : List Pr) (C P : Nat) (v : Value) (N : Int) (X p : Nat) (lim : Bool) (LIM : Nat) (l' : List Pr) : Prop :=
  ∀ W, TfAt s1 l C P v W → Calls Tryz.prog 177 #[.pointer (some ⟨C, 0, none⟩), .int .i64 N, .int .u64 X, .int .u64 p, .bool lim] W fun e w' => e = .returned (.int .u64 LIM) ∧ ∃ v', TfAt s1 l' C P v' w' ∧ Kept (P :: own v) W w' ∧ (v'.ownBlock = v.ownBlock ∨ ∃ g, v'.ownBlock = some g ∧ W.heap.size ≤ g)
theorem TfAt.put {s s' : TfS} {l : List Pr} {C P i : Nat} {v u : Value} {w : World} (h : TfAt s l C P v w) (e : (tfCells s P).setIfInBounds i u = tfCells s' P) : TfAt s' l C P v (w.setCell ⟨C, i, none⟩ u) := by
  have hk : Kept [C] w (w.setCell ⟨C, i, none⟩ u) := (Kept.refl _ _).setCell (.inl (by simp)) _
  refine ⟨?_, h.set.kept hk (by simp; exact fun e => h.ne e.symm) (fun g hg => by simp; exact h.ne2 g hg), h.ne, h.ne2⟩
  have h1 := BlkIs.set h.tf i u
  rw [e] at h1
  exact h1
set_option maxHeartbeats 8000000 in
set_option maxRecDepth 100000 in
theorem tfHear_first_none (s : TfS) (hs : s.ok) (now sample : Int) (x : Nat) (hx : x < 18446744073709551616) (N : Int) (hN : max 0 (min now 4611686018427387904) = N) (R : Nat) (hR : max 1 (min sample 4294967296) = (R : Int)) (hr : s.rtt = 0) (X : Nat) (hX : min x 1125899906842624 = X) (hdb : N - N < (R : Int)) (lim : Bool)
    (l l' : List Pr) (LIM : Nat) (hLIM : LIM < 18446744073709551616) (C P : Nat) (v : Value) (w : World) (h : TfAt s l C P v w) (hl : LimIs ({ s with rtt := R, rate := M.tfInit s.size R, doubled := N } : TfS) l C P v N X 0 lim LIM l') :
    Calls Tryz.prog 141 #[.pointer (some ⟨C, 0, none⟩), .int .i64 now, .int .i64 sample, .int .u64 x, .int .u64 0, .bool lim] w fun e w' => e = .returned (.tuple #[]) ∧
      ∃ v', TfAt (({ ({ s with rtt := R, rate := M.tfInit s.size R, doubled := N } : TfS) with loss := 0, rate := max (M.tfInit s.size R) s.size } : TfS).run (M.tfDue (M.tfWait ({ ({ s with rtt := R, rate := M.tfInit s.size R, doubled := N } : TfS) with loss := 0, rate := max (M.tfInit s.size R) s.size } : TfS)) N)) l' C P v' w' ∧ Kept (C :: P :: own v) w w' ∧ (v'.ownBlock = v.ownBlock ∨ ∃ g, v'.ownBlock = some g ∧ w.heap.size ≤ g) := by
  obtain ⟨fin, hfin⟩ : ∃ fin : TfS, ({ ({ s with rtt := R, rate := M.tfInit s.size R, doubled := N } : TfS) with loss := 0, rate := max (M.tfInit s.size R) s.size } : TfS) = fin := ⟨_, rfl⟩
  rw [hfin]
  have HFIN := Lib.hid hfin
  clear hfin
  have HM := Lib.hid (tfMade_any s hs l C P v w h)
  have HW1 := Lib.hid (fun W => tfWithin_any now 0 4611686018427387904 W)
  have HW2 := Lib.hid (fun W => tfWithin_any sample 1 4294967296 W)
  rw [hN] at HW1
  rw [hR] at HW2
  have hNb : 0 ≤ N ∧ N ≤ 4611686018427387904 := by omega
  have hRb : 1 ≤ R ∧ R ≤ 4294967296 := by omega
  obtain ⟨b1, b2⟩ := hs.b0
  have hsb1 := hs.b1
  have hsb2 := hs.b2
  have hsb4 := hs.b4
  have hXb : X < 18446744073709551616 := by omega
  obtain ⟨x1, x2, x3, _⟩ := mns x 1125899906842624 X hX
  have x1' : (if (1125899906842624 : Int) < (x : Int) then 1125899906842624 else (x : Int)) = (X : Int) := x1
  have x2' : (if 1125899906842624 < x then 1125899906842624 else (x : Int)) = (X : Int) := x2
  have x3' : min (x : Int) 1125899906842624 = (X : Int) := x3
  have m0 : min (0 : Int) 4294967296 = 0 := by decide
  have HNC : Hid (C ∉ P :: own v) := Lib.hid (own_nin h.ne h.ne2)
  have HCW : Hid (C < w.heap.size) := Lib.hid h.tf.lt
  have c2 : w.cell? ⟨C, 2, none⟩ = some (.int .i64 0) := by rw [← hr]; exact BlkIs.cell h.tf 2
  have f2 := BlkIs.free h.tf 2
  have hkA : Hid (Kept [C] w (w.setCell ⟨C, 2, none⟩ (.int .i64 R))) := Lib.hid ((Kept.refl _ _).setCell (.inl (by simp)) _)
  have HA : Hid (TfAt { s with rtt := R } l C P v (w.setCell ⟨C, 2, none⟩ (.int .i64 R))) := Lib.hid (h.put (i := 2) rfl)
  have hokA : ({ s with rtt := R } : TfS).ok := ⟨hs.b0, hs.b1, by simp only; omega, hs.b3, hs.b4⟩
  have HIN := Lib.hid (tfInitial_any { s with rtt := R } hokA (by simp only; omega) R rfl l C P v _ HA.out)
  have hIb := M.tfInit_bd s.size R b2
  obtain ⟨I, hI⟩ : ∃ I, M.tfInit s.size R = I := ⟨_, rfl⟩
  simp only at HIN
  rw [hI] at HIN hIb hl HFIN
  have HST := Lib.hid hs
  have HIe := Lib.hid hI
  clear h hs hr hX hI hN hR
  go_enter Tryz.func141, Tryz.ntmps141
  go_upto_region 5 with (first
    | (go_at_call 77; (with_reducible refine HM.out.mono ?_); rintro e w1 ⟨rfl, rfl⟩)
    | (go_at_call 175; (with_reducible refine (HW1.out _).mono ?_); rintro e w1 ⟨rfl, rfl⟩)
    | (go_at_call 175; (with_reducible refine (HW2.out _).mono ?_); rintro e w1 ⟨rfl, rfl⟩))
  generalize w.setCell ⟨C, 2, none⟩ (.int .i64 R) = W1 at *
  have d1 : ∀ n, (W1.drewN n).cell? ⟨C, 1, none⟩ = some (.int .u64 s.rate) := fun n => BlkIs.cell HA.out.tf 1
  have d5 : ∀ n, (W1.drewN n).cell? ⟨C, 5, none⟩ = some (.int .i64 s.doubled) := fun n => BlkIs.cell HA.out.tf 5
  have e1 : ∀ n, (W1.drewN n).frozen? ⟨C, 1, none⟩ = false := fun n => BlkIs.free HA.out.tf 1
  have e5 : ∀ n, (W1.drewN n).frozen? ⟨C, 5, none⟩ = false := fun n => BlkIs.free HA.out.tf 5
  clear c2 f2 HW1 HW2 HM
  go_upto_region 7 with (go_at_call 176; (with_reducible refine HIN.out.mono ?_); rintro e w1 ⟨rfl, n1, rfl⟩)
  obtain ⟨W2, hW2⟩ : ∃ W2, ((W1.drewN n1).setCell ⟨C, 1, none⟩ (.int .u64 I)).setCell ⟨C, 5, none⟩ (.int .i64 N) = W2 := ⟨_, rfl⟩
  have hkB : Hid (Kept [C] w W2) := Lib.hid (by rw [← hW2]; exact ((hkA.out.drewN n1).setCell (.inl (by simp)) _).setCell (.inl (by simp)) _)
  obtain ⟨s1, hs1⟩ : ∃ s1 : TfS, ({ s with rtt := R, rate := I, doubled := N } : TfS) = s1 := ⟨_, rfl⟩
  rw [hs1] at hl
  have HB : Hid (TfAt s1 l C P v W2) := Lib.hid (by
    rw [← hW2, ← hs1]
    have h1 : TfAt { s with rtt := R, rate := I } l C P v _ := (HA.out.drewN n1).put (i := 1) rfl
    exact h1.put (i := 5) rfl)
  rw [hW2]
  clear hW2 d1 d5 e1 e5 HIN HA
  have HS1E := Lib.hid hs1
  have hs1s : s1.size = s.size := by rw [← hs1]
  have hs1r : s1.rtt = (R : Int) := by rw [← hs1]
  have hs1d : s1.doubled = N := by rw [← hs1]
  have hs1t : s1.rate = I := by rw [← hs1]
  have HS1O : Hid (s1.ok) := Lib.hid (by rw [← hs1]; exact ⟨HST.out.b0, hIb, by simp only; omega, HST.out.b3, by simp only; omega⟩)
  have HLIM := Lib.hid (show Calls Tryz.prog 177 #[.pointer (some ⟨C, 0, none⟩), .int .i64 N, .int .u64 X, .int .u64 0, .bool lim] W2 _ from hl W2 HB.out)
  clear hl
  go_upto_region 8 with (go_at_call 177; (with_reducible refine HLIM.out.mono ?_); rintro e W3 ⟨rfl, v3, ht3, hk3, hv3⟩)
  have HV3 : Hid (v3.ownBlock = v.ownBlock ∨ ∃ g, v3.ownBlock = some g ∧ w.heap.size ≤ g) := Lib.hid (by
    rcases hv3 with h1 | ⟨g, h1, h2⟩
    · exact .inl h1
    · exact .inr ⟨g, h1, Nat.le_trans hkB.out.size h2⟩)
  have hkC : Hid (Kept (C :: P :: own v) w W3) := Lib.hid ((hkB.out.more (fun x hx => by simp at hx; subst hx; simp)).trans' (hk3.more (fun x hx => by simp; right; simpa using hx)))
  have HT3 := Lib.hid ht3
  have g3 : W3.cell? ⟨C, 3, none⟩ = some (.int .u64 s1.loss) := BlkIs.cell ht3.tf 3
  have k3 := BlkIs.free ht3.tf 3
  clear ht3 hk3 hv3 HLIM HB
  go_upto_region 11 with fail
  obtain ⟨W4, hW4⟩ : ∃ W4, W3.setCell ⟨C, 3, none⟩ (.int .u64 0) = W4 := ⟨_, rfl⟩
  have hk34 : Kept [C] W3 W4 := by rw [← hW4]; exact (Kept.refl _ _).setCell (.inl (by simp)) _
  obtain ⟨s2, hs2⟩ : ∃ s2 : TfS, ({ s1 with loss := 0 } : TfS) = s2 := ⟨_, rfl⟩
  have HD : Hid (TfAt s2 l' C P v3 W4) := Lib.hid (by rw [← hW4, ← hs2]; exact HT3.out.put (i := 3) rfl)
  have hkD : Hid (Kept (C :: P :: own v) w W4) := Lib.hid (hkC.out.trans' (hk34.more (fun x hx => by simp at hx; subst hx; simp)))
  rw [show W3.setCell ⟨C, 3, none⟩ (.int .u64 0) = W4 from hW4]
  clear hW4 hk34 g3 k3 HT3 hkC hkB
  have hs2s : s2.size = s.size := by rw [← hs2]; exact hs1s
  have hs2r : s2.rtt = (R : Int) := by rw [← hs2]; exact hs1r
  have hs2d : s2.doubled = N := by rw [← hs2]; exact hs1d
  have hs2t : s2.rate = I := by rw [← hs2]; exact hs1t
  have HS2O : Hid (s2.ok) := Lib.hid (by rw [← hs2]; exact ⟨HS1O.out.b0, HS1O.out.b1, HS1O.out.b2, by show 0 ≤ 4294967296; omega, HS1O.out.b4⟩)
  have HS2E := Lib.hid hs2
  clear hs2 hs1s hs1r hs1d hs1t hs1
  have q2 : W4.cell? ⟨C, 2, none⟩ = some (.int .i64 R) := by rw [← hs2r]; exact BlkIs.cell HD.out.tf 2
  have q5 : W4.cell? ⟨C, 5, none⟩ = some (.int .i64 N) := by rw [← hs2d]; exact BlkIs.cell HD.out.tf 5
  have hw1 : IntKind.i64.wrap (N - N) = N - N := IntWalk.i64_in _ (by omega)
  have hdec : decide ((R : Int) ≤ N - N) = false := decide_eq_false (by omega)
  have hz0 : N - N = 0 := Int.sub_self N
  have hdec0 : decide ((R : Int) ≤ 0) = false := decide_eq_false (by omega)
  clear hs2d hs2r
  go_quiet (fail)
  have HE : Hid (TfAt s2 l' C P v3 (W4.drewN nq)) := Lib.hid (HD.out.drewN nq)
  have hkE : Hid (Kept (C :: P :: own v) w (W4.drewN nq)) := Lib.hid (hkD.out.drewN nq)
  clear q2 q5 hw1 hdec hz0 hdec0 HD hkD
  generalize W4.drewN nq = W5 at *
  obtain ⟨s3, hs3⟩ : ∃ s3, s2 = s3 := ⟨_, rfl⟩
  obtain ⟨J0, hJ0⟩ : ∃ J0, I = J0 := ⟨_, rfl⟩
  have HOK3 : Hid (s3.ok) := Lib.hid (by rw [← hs3]; exact HS2O.out)
  have HFE : Hid (∀ J, max J0 s.size = J → ({ s3 with rate := J } : TfS) = fin) := Lib.hid (fun J hJ => by
    have hf := HFIN.out
    rw [← hf, ← hs3, ← HS2E.out, ← HS1E.out, ← hJ, ← hJ0])
  rw [hs3] at HE
  have hs3s : s3.size = s.size := by rw [← hs3]; exact hs2s
  have hs3t : s3.rate = J0 := by rw [← hs3, ← hJ0]; exact hs2t
  have hJ0b : J0 < 18446744073709551616 := by rw [← hs3t]; exact HOK3.out.b1
  clear hs3 hJ0 hs2s hs2t
  have q0 : W5.cell? ⟨C, 0, none⟩ = some (.int .u64 s.size) := by rw [← hs3s]; exact BlkIs.cell HE.out.tf 0
  have q1 : W5.cell? ⟨C, 1, none⟩ = some (.int .u64 J0) := by rw [← hs3t]; exact BlkIs.cell HE.out.tf 1
  have k1 := BlkIs.free HE.out.tf 1
  obtain ⟨J, hJ⟩ : ∃ J, max J0 s.size = J := ⟨_, rfl⟩
  obtain ⟨j1, j2, j3, _, j5, j6⟩ := mxs J0 s.size J hJ
  have hfin2 : ({ s3 with rate := J } : TfS) = fin := HFE.out J hJ
  have HF : Hid (TfAt fin l' C P v3 ((W5.setCell ⟨C, 1, none⟩ (.int .u64 J)).drew) ∧ Kept (C :: P :: own v) w ((W5.setCell ⟨C, 1, none⟩ (.int .u64 J)).drew)) := Lib.hid (by
    have hk : Kept [C] W5 ((W5.setCell ⟨C, 1, none⟩ (.int .u64 J)).drew) := ((Kept.refl _ _).setCell (.inl (by simp)) _).drew
    refine ⟨?_, hkE.out.trans' (hk.more (fun x hx => by simp at hx; subst hx; simp))⟩
    rw [← hfin2]
    have h1 : TfAt { s3 with rate := J } l' C P v3 _ := HE.out.put (i := 1) rfl
    exact h1.drewN 1)
  have HRUN := Lib.hid (tfRunOn_any fin (by
    rw [← hfin2]
    have ho := HOK3.out
    exact ⟨ho.b0, by show J < 18446744073709551616; omega, ho.b2, ho.b3, ho.b4⟩) (by rw [← hfin2]; show s3.size ≤ J; rw [hs3s]; exact j6) N (by omega) l' C P v3 _ HF.out.1)
  clear hJ hfin2 j5 j6 hs3s hs3t
  generalize s.size = sz at *
  go_wp2
  go_region_with (fail)
  all_goals
    go_wp2_with (go_at_call 178; (with_reducible refine HRUN.out.mono ?_); rintro e W7 ⟨rfl, ht7, hk7⟩)
    go_end0
    exact ⟨rfl, v3, ht7, HF.out.2.trans' (hk7.more (fun x hx => by simp at hx; subst hx; simp)), HV3.out⟩
set_option maxHeartbeats 8000000 in
set_option maxRecDepth 100000 in
theorem tfHear_first_p (s : TfS) (hs : s.ok) (now sample : Int) (x : Nat) (hx : x < 18446744073709551616) (N : Int) (hN : max 0 (min now 4611686018427387904) = N) (R : Nat) (hR : max 1 (min sample 4294967296) = (R : Int)) (hr : s.rtt = 0) (X : Nat) (hX : min x 1125899906842624 = X) (p pp : Nat) (hp : p < 18446744073709551616) (hpp : min p 4294967296 = pp) (hp0 : 0 < pp) (lim : Bool)
    (l l' : List Pr) (LIM : Nat) (hLIM : LIM < 18446744073709551616) (C P : Nat) (v : Value) (w : World) (h : TfAt s l C P v w) (hl : LimIs ({ s with rtt := R, rate := M.tfInit s.size R, doubled := N } : TfS) l C P v N X pp lim LIM l') :
    Calls Tryz.prog 141 #[.pointer (some ⟨C, 0, none⟩), .int .i64 now, .int .i64 sample, .int .u64 x, .int .u64 p, .bool lim] w fun e w' => e = .returned (.tuple #[]) ∧
      ∃ v', TfAt (({ ({ s with rtt := R, rate := M.tfInit s.size R, doubled := N } : TfS) with loss := pp, rate := max (min (M.eqnRate s.size R pp) LIM) s.size } : TfS).run (M.tfDue (M.tfWait ({ ({ s with rtt := R, rate := M.tfInit s.size R, doubled := N } : TfS) with loss := pp, rate := max (min (M.eqnRate s.size R pp) LIM) s.size } : TfS)) N)) l' C P v' w' ∧ Kept (C :: P :: own v) w w' ∧ (v'.ownBlock = v.ownBlock ∨ ∃ g, v'.ownBlock = some g ∧ w.heap.size ≤ g) := by
  obtain ⟨fin, hfin⟩ : ∃ fin : TfS, ({ ({ s with rtt := R, rate := M.tfInit s.size R, doubled := N } : TfS) with loss := pp, rate := max (min (M.eqnRate s.size R pp) LIM) s.size } : TfS) = fin := ⟨_, rfl⟩
  rw [hfin]
  have HFIN := Lib.hid hfin
  clear hfin
  have HM := Lib.hid (tfMade_any s hs l C P v w h)
  have HW1 := Lib.hid (fun W => tfWithin_any now 0 4611686018427387904 W)
  have HW2 := Lib.hid (fun W => tfWithin_any sample 1 4294967296 W)
  rw [hN] at HW1
  rw [hR] at HW2
  have hNb : 0 ≤ N ∧ N ≤ 4611686018427387904 := by omega
  have hRb : 1 ≤ R ∧ R ≤ 4294967296 := by omega
  obtain ⟨b1, b2⟩ := hs.b0
  have hsb1 := hs.b1
  have hsb2 := hs.b2
  have hsb4 := hs.b4
  have hXb : X < 18446744073709551616 := by omega
  obtain ⟨x1, x2, x3, _⟩ := mns x 1125899906842624 X hX
  have x1' : (if (1125899906842624 : Int) < (x : Int) then 1125899906842624 else (x : Int)) = (X : Int) := x1
  have x2' : (if 1125899906842624 < x then 1125899906842624 else (x : Int)) = (X : Int) := x2
  have x3' : min (x : Int) 1125899906842624 = (X : Int) := x3
  obtain ⟨y1, y2, y3, _⟩ := mns p 4294967296 pp hpp
  have y1' : (if (4294967296 : Int) < (p : Int) then 4294967296 else (p : Int)) = (pp : Int) := y1
  have y2' : (if 4294967296 < p then 4294967296 else (p : Int)) = (pp : Int) := y2
  have y3' : min (p : Int) 4294967296 = (pp : Int) := y3
  have hppb : pp < 18446744073709551616 := by omega
  have HNC : Hid (C ∉ P :: own v) := Lib.hid (own_nin h.ne h.ne2)
  have HCW : Hid (C < w.heap.size) := Lib.hid h.tf.lt
  have c2 : w.cell? ⟨C, 2, none⟩ = some (.int .i64 0) := by rw [← hr]; exact BlkIs.cell h.tf 2
  have f2 := BlkIs.free h.tf 2
  have hkA : Hid (Kept [C] w (w.setCell ⟨C, 2, none⟩ (.int .i64 R))) := Lib.hid ((Kept.refl _ _).setCell (.inl (by simp)) _)
  have HA : Hid (TfAt { s with rtt := R } l C P v (w.setCell ⟨C, 2, none⟩ (.int .i64 R))) := Lib.hid (h.put (i := 2) rfl)
  have hokA : ({ s with rtt := R } : TfS).ok := ⟨hs.b0, hs.b1, by simp only; omega, hs.b3, hs.b4⟩
  have HIN := Lib.hid (tfInitial_any { s with rtt := R } hokA (by simp only; omega) R rfl l C P v _ HA.out)
  have hIb := M.tfInit_bd s.size R b2
  obtain ⟨I, hI⟩ : ∃ I, M.tfInit s.size R = I := ⟨_, rfl⟩
  simp only at HIN
  rw [hI] at HIN hIb hl HFIN
  have HST := Lib.hid hs
  have HIe := Lib.hid hI
  clear h hs hr hX hI hN hR
  go_enter Tryz.func141, Tryz.ntmps141
  go_upto_region 5 with (first
    | (go_at_call 77; (with_reducible refine HM.out.mono ?_); rintro e w1 ⟨rfl, rfl⟩)
    | (go_at_call 175; (with_reducible refine (HW1.out _).mono ?_); rintro e w1 ⟨rfl, rfl⟩)
    | (go_at_call 175; (with_reducible refine (HW2.out _).mono ?_); rintro e w1 ⟨rfl, rfl⟩))
  generalize w.setCell ⟨C, 2, none⟩ (.int .i64 R) = W1 at *
  have d1 : ∀ n, (W1.drewN n).cell? ⟨C, 1, none⟩ = some (.int .u64 s.rate) := fun n => BlkIs.cell HA.out.tf 1
  have d5 : ∀ n, (W1.drewN n).cell? ⟨C, 5, none⟩ = some (.int .i64 s.doubled) := fun n => BlkIs.cell HA.out.tf 5
  have e1 : ∀ n, (W1.drewN n).frozen? ⟨C, 1, none⟩ = false := fun n => BlkIs.free HA.out.tf 1
  have e5 : ∀ n, (W1.drewN n).frozen? ⟨C, 5, none⟩ = false := fun n => BlkIs.free HA.out.tf 5
  clear c2 f2 HW1 HW2 HM
  go_upto_region 7 with (go_at_call 176; (with_reducible refine HIN.out.mono ?_); rintro e w1 ⟨rfl, n1, rfl⟩)
  obtain ⟨W2, hW2⟩ : ∃ W2, ((W1.drewN n1).setCell ⟨C, 1, none⟩ (.int .u64 I)).setCell ⟨C, 5, none⟩ (.int .i64 N) = W2 := ⟨_, rfl⟩
  have hkB : Hid (Kept [C] w W2) := Lib.hid (by rw [← hW2]; exact ((hkA.out.drewN n1).setCell (.inl (by simp)) _).setCell (.inl (by simp)) _)
  obtain ⟨s1, hs1⟩ : ∃ s1 : TfS, ({ s with rtt := R, rate := I, doubled := N } : TfS) = s1 := ⟨_, rfl⟩
  rw [hs1] at hl
  have HB : Hid (TfAt s1 l C P v W2) := Lib.hid (by
    rw [← hW2, ← hs1]
    have h1 : TfAt { s with rtt := R, rate := I } l C P v _ := (HA.out.drewN n1).put (i := 1) rfl
    exact h1.put (i := 5) rfl)
  rw [hW2]
  clear hW2 d1 d5 e1 e5 HIN HA
  have HS1E := Lib.hid hs1
  have hs1s : s1.size = s.size := by rw [← hs1]
  have hs1r : s1.rtt = (R : Int) := by rw [← hs1]
  have hs1d : s1.doubled = N := by rw [← hs1]
  have hs1t : s1.rate = I := by rw [← hs1]
  have HS1O : Hid (s1.ok) := Lib.hid (by rw [← hs1]; exact ⟨HST.out.b0, hIb, by simp only; omega, HST.out.b3, by simp only; omega⟩)
  have HLIM := Lib.hid (show Calls Tryz.prog 177 #[.pointer (some ⟨C, 0, none⟩), .int .i64 N, .int .u64 X, .int .u64 pp, .bool lim] W2 _ from hl W2 HB.out)
  clear hl
  go_upto_region 8 with (go_at_call 177; (with_reducible refine HLIM.out.mono ?_); rintro e W3 ⟨rfl, v3, ht3, hk3, hv3⟩)
  have HV3 : Hid (v3.ownBlock = v.ownBlock ∨ ∃ g, v3.ownBlock = some g ∧ w.heap.size ≤ g) := Lib.hid (by
    rcases hv3 with h1 | ⟨g, h1, h2⟩
    · exact .inl h1
    · exact .inr ⟨g, h1, Nat.le_trans hkB.out.size h2⟩)
  have hkC : Hid (Kept (C :: P :: own v) w W3) := Lib.hid ((hkB.out.more (fun x hx => by simp at hx; subst hx; simp)).trans' (hk3.more (fun x hx => by simp; right; simpa using hx)))
  have HT3 := Lib.hid ht3
  have g3 : W3.cell? ⟨C, 3, none⟩ = some (.int .u64 s1.loss) := BlkIs.cell ht3.tf 3
  have k3 := BlkIs.free ht3.tf 3
  clear ht3 hk3 hv3 HLIM HB
  have hpd : decide ((0 : Int) < (pp : Int)) = true := decide_eq_true (by omega)
  go_upto_region 10 with fail
  obtain ⟨W4, hW4⟩ : ∃ W4, W3.setCell ⟨C, 3, none⟩ (.int .u64 pp) = W4 := ⟨_, rfl⟩
  have hk34 : Kept [C] W3 W4 := by rw [← hW4]; exact (Kept.refl _ _).setCell (.inl (by simp)) _
  obtain ⟨s2, hs2⟩ : ∃ s2 : TfS, ({ s1 with loss := pp } : TfS) = s2 := ⟨_, rfl⟩
  have HD : Hid (TfAt s2 l' C P v3 W4) := Lib.hid (by rw [← hW4, ← hs2]; exact HT3.out.put (i := 3) rfl)
  have hkD : Hid (Kept (C :: P :: own v) w W4) := Lib.hid (hkC.out.trans' (hk34.more (fun x hx => by simp at hx; subst hx; simp)))
  rw [show W3.setCell ⟨C, 3, none⟩ (.int .u64 pp) = W4 from hW4]
  clear hW4 hk34 g3 k3 HT3 hkC hkB
  have hs2s : s2.size = s.size := by rw [← hs2]; exact hs1s
  have hs2r : s2.rtt = (R : Int) := by rw [← hs2]; exact hs1r
  have hs2d : s2.doubled = N := by rw [← hs2]; exact hs1d
  have hs2t : s2.rate = I := by rw [← hs2]; exact hs1t
  have HS2O : Hid (s2.ok) := Lib.hid (by rw [← hs2]; exact ⟨HS1O.out.b0, HS1O.out.b1, HS1O.out.b2, by show pp ≤ 4294967296; omega, HS1O.out.b4⟩)
  have HS2E := Lib.hid hs2
  clear hs2 hs1s hs1r hs1d hs1t hs1
  have hRT : ((R : Nat) : Int) ≤ 4294967296 := by omega
  have hwR : IntKind.u64.wrap ((R : Nat) : Int) = ((R : Nat) : Int) := IntWalk.u64_in _ (by omega)
  have q0 : ∀ n, (W4.drewN n).cell? ⟨C, 0, none⟩ = some (.int .u64 s.size) := fun n => by rw [← hs2s]; exact BlkIs.cell HD.out.tf 0
  have q2 : ∀ n, (W4.drewN n).cell? ⟨C, 2, none⟩ = some (.int .i64 R) := fun n => by rw [← hs2r]; exact BlkIs.cell HD.out.tf 2
  have q1 : ∀ n, (W4.drewN n).cell? ⟨C, 1, none⟩ = some (.int .u64 s2.rate) := fun n => BlkIs.cell HD.out.tf 1
  have f1 : ∀ n, (W4.drewN n).frozen? ⟨C, 1, none⟩ = false := fun n => BlkIs.free HD.out.tf 1
  have p0 : W4.cell? ⟨C, 0, none⟩ = some (.int .u64 s.size) := q0 0
  have p2 : W4.cell? ⟨C, 2, none⟩ = some (.int .i64 R) := q2 0
  obtain ⟨G, hG⟩ : ∃ G, M.eqnRate s.size R pp = G := ⟨_, rfl⟩
  have HEQ : Hid (∀ W, Calls Tryz.prog 149 #[.int .u64 s.size, .int .u64 R, .int .u64 pp] W fun e w' => e = .returned (.int .u64 G) ∧ ∃ k, w' = W.drewN k) := Lib.hid (fun W => by have h1 := eqnRate_any s.size R pp (by omega) (by omega) hppb W; rw [hG] at h1; exact h1)
  obtain ⟨J0, hJ0⟩ : ∃ J0, min G LIM = J0 := ⟨_, rfl⟩
  rw [hG, hJ0] at HFIN
  obtain ⟨n1, n2, n3, _, n5, n6⟩ := mns G LIM J0 hJ0
  have hJ0b : J0 < 18446744073709551616 := by omega
  have HSR : Hid (s2.size = s.size) := Lib.hid hs2s
  clear hs2s hs2r hs2d hs2t hG hJ0 n5 n6
  go_region_with (go_at_call 149; (with_reducible refine (HEQ.out _).mono ?_); rintro e w1 ⟨rfl, k1, rfl⟩)
  all_goals
    obtain ⟨W5, hW5⟩ : ∃ W5, (W4.drewN (1 + k1)).setCell ⟨C, 1, none⟩ (.int .u64 J0) = W5 := ⟨_, rfl⟩
    obtain ⟨s3, hs3⟩ : ∃ s3 : TfS, ({ s2 with rate := J0 } : TfS) = s3 := ⟨_, rfl⟩
    have HE : Hid (TfAt s3 l' C P v3 W5) := Lib.hid (by
      rw [← hW5, ← hs3]
      exact (HD.out.drewN (1 + k1)).put (i := 1) rfl)
    have hkE : Hid (Kept (C :: P :: own v) w W5) := Lib.hid (by rw [← hW5]; exact (hkD.out.drewN (1 + k1)).setCell (.inl (by simp)) _)
    rw [hW5]
    have HOK3 : Hid (s3.ok) := Lib.hid (by rw [← hs3]; exact ⟨HS2O.out.b0, hJ0b, HS2O.out.b2, HS2O.out.b3, HS2O.out.b4⟩)
    have HFE : Hid (∀ J, max J0 s.size = J → ({ s3 with rate := J } : TfS) = fin) := Lib.hid (fun J hJ => by
      have hf := HFIN.out
      rw [← hf, ← hs3, ← HS2E.out, ← HS1E.out, ← hJ])
    have hs3s : s3.size = s.size := by rw [← hs3]; exact HSR.out
    have hs3t : s3.rate = J0 := by rw [← hs3]
    clear hW5 hs3 q0 q1 q2 f1 p0 p2 hwR HEQ n1 n2 n3 HD hkD
    have q0 : W5.cell? ⟨C, 0, none⟩ = some (.int .u64 s.size) := by rw [← hs3s]; exact BlkIs.cell HE.out.tf 0
    have q1 : W5.cell? ⟨C, 1, none⟩ = some (.int .u64 J0) := by rw [← hs3t]; exact BlkIs.cell HE.out.tf 1
    have k1 := BlkIs.free HE.out.tf 1
    obtain ⟨J, hJ⟩ : ∃ J, max J0 s.size = J := ⟨_, rfl⟩
    obtain ⟨j1, j2, j3, _, j5, j6⟩ := mxs J0 s.size J hJ
    have hfin2 : ({ s3 with rate := J } : TfS) = fin := HFE.out J hJ
    have HF : Hid (TfAt fin l' C P v3 ((W5.setCell ⟨C, 1, none⟩ (.int .u64 J)).drew) ∧ Kept (C :: P :: own v) w ((W5.setCell ⟨C, 1, none⟩ (.int .u64 J)).drew)) := Lib.hid (by
      have hk : Kept [C] W5 ((W5.setCell ⟨C, 1, none⟩ (.int .u64 J)).drew) := ((Kept.refl _ _).setCell (.inl (by simp)) _).drew
      refine ⟨?_, hkE.out.trans' (hk.more (fun x hx => by simp at hx; subst hx; simp))⟩
      rw [← hfin2]
      have h1 : TfAt { s3 with rate := J } l' C P v3 _ := HE.out.put (i := 1) rfl
      exact h1.drewN 1)
    have HRUN := Lib.hid (tfRunOn_any fin (by
      rw [← hfin2]
      have ho := HOK3.out
      exact ⟨ho.b0, by show J < 18446744073709551616; omega, ho.b2, ho.b3, ho.b4⟩) (by rw [← hfin2]; show s3.size ≤ J; rw [hs3s]; exact j6) N (by omega) l' C P v3 _ HF.out.1)
    clear hJ hfin2 j5 j6 hs3s hs3t
    generalize s.size = sz at *
    go_wp2
    go_region_with (fail)
    all_goals
      go_wp2_with (go_at_call 178; (with_reducible refine HRUN.out.mono ?_); rintro e W7 ⟨rfl, ht7, hk7⟩)
      go_end0
      exact ⟨rfl, v3, ht7, HF.out.2.trans' (hk7.more (fun x hx => by simp at hx; subst hx; simp)), HV3.out⟩
end Go.Proofs.YtnhlachoimlhhaaGreatDoor

namespace Go.Proofs.YtnhlachoimlhhaaGreatDoor
open Go.ChangeShapes Go.WideShapes Go.ChangeAt Go.RowKit
set_option linter.unusedVariables false
set_option linter.unusedSimpArgs false

theorem indexFunc_first (l : List Pr) (v : Value) (Bx : Nat) (least : Int) (w : World) (hr : PrRow l v w) (hc : w.cell? ⟨Bx, 0, none⟩ = some (.int .i64 least)) (h0 : 0 < l.length) (hl : l.length ≤ 1000) (hold : (l.getD 0 (0, 0)).1 < least) :
    Calls Tryz.prog 254 #[v, .func (.func 223) #[] #[.pointer (some ⟨Bx, 0, none⟩)]] w fun e w' => e = .returned (.int .i64 0) ∧ Below w.heap.size w w' := by
  have HU := Lib.hid (upd1_any (l.getD 0 (0, 0)) Bx least w hc)
  obtain ⟨g, c, rfl, hc1, hc2, hg, hcell, _, _⟩ := hr.shape h0
  obtain ⟨x0, x1⟩ := hcell 0 h0
  rw [decide_eq_true hold] at HU
  generalize l.getD 0 (0, 0) = p at *
  obtain ⟨a, x⟩ := p
  simp only [Nat.zero_mul, Nat.zero_add] at x0 x1 HU
  have hl0 : decide ((0 : Int) < (l.length : Int)) = true := decide_eq_true (by omega)
  generalize l.length = N at *
  clear hr hcell hc hold
  go_enter Tryz.func254, Tryz.ntmps254
  go_wp2
  refine wp_loop_rounds 1 ?_
  rw [rounds_succ]
  go_wp2_with (go_at_call 223; (with_reducible refine HU.out.mono ?_); rintro e w1 ⟨rfl, hb1⟩)
  go_ret
  exact ⟨rfl, hb1⟩
/-- What is written behind a row leaves it. -/
theorem PrRow.setFar {l : List Pr} {g n c : Nat} {w : World} (h : PrRow l (.slice (some ⟨g, 0, none⟩) n c) w) (k : Nat) (hk : l.length * 2 ≤ k) (u : Value) : PrRow l (.slice (some ⟨g, 0, none⟩) n c) (w.setCell ⟨g, k, none⟩ u) := by
  refine ⟨h.1, ?_⟩
  rcases h.2 with ⟨hv, h0⟩ | ⟨g', cap, cur, hv, hB, hg', hcap, hcm, hs, ht⟩
  · cases hv
  · injection hv with e1 e2 e3
    injection e1 with e1
    injection e1 with e1
    subst e1 e2 e3
    refine .inr ⟨g, c, cur.setIfInBounds k u, rfl, hB, heap_setCell_same w g _ _ _ _ hg', hcap, hcm, by rw [Array.size_setIfInBounds]; exact hs, ?_⟩
    rw [Array.toList_setIfInBounds, List.take_set, List.set_eq_of_length_le (by rw [List.length_take]; omega)]
    exact ht
/-- 'clear' of one pair. -/
theorem run_clear_pr1 (w : World) (ty : TypeId) (b o c : Nat) (h0 : (w.cell? ⟨b, o, none⟩).isSome = true) (h1 : (w.cell? ⟨b, o + 1, none⟩).isSome = true) (f0 : w.frozen? ⟨b, o, none⟩ = false) (f1 : w.frozen? ⟨b, o + 1, none⟩ = false) :
    (Builtin.clear_ #[194] ty #[.slice (some ⟨b, o, none⟩) 1 c]).run Tryz.prog w = .ok (.tuple #[]) (w.setCells b o [.int .i64 0, .int .u64 0]) := by
  have hst := run_storeCells_cells (P := Tryz.prog) b o [.int .i64 0, .int .u64 0] 0 w (by
    intro j hj
    rcases j with _ | _ | j
    · simpa using h0
    · simpa using h1
    · simp at hj; omega) (by
    intro j hj
    rcases j with _ | _ | j
    · simpa using f0
    · simpa using f1
    · simp at hj; omega) (by intro v hv; simp at hv; rcases hv with rfl | rfl <;> rfl)
  simp only [Nat.add_zero] at hst
  have hz : (Builtin.zeroCells (Value.agg #[.int .i64 0, .int .u64 0]).cells 1).toList = [.int .i64 0, .int .u64 0] := by simp [Builtin.zeroCells, Value.cells]; rfl
  simp [Builtin.clear_, run_underlying Tryz.underlying194, Tryz.zeroValue193, hz, hst]
/-- The first of two goes, the second one takes its place. -/
theorem deleteFunc_first (p q : Pr) (v : Value) (Bx : Nat) (least : Int) (w : World) (hr : PrRow [p, q] v w) (hc : w.cell? ⟨Bx, 0, none⟩ = some (.int .i64 least)) (hBx : ∀ g, v.ownBlock = some g → g ≠ Bx) (h1 : p.1 < least) (h2 : least ≤ q.1) :
    Calls Tryz.prog 222 #[v, .func (.func 223) #[] #[.pointer (some ⟨Bx, 0, none⟩)]] w fun e w' => ∃ g c, v = .slice (some ⟨g, 0, none⟩) 2 c ∧ e = .returned (.slice (some ⟨g, 0, none⟩) 1 c) ∧ PrRow [q] (.slice (some ⟨g, 0, none⟩) 1 c) w' ∧ Kept [g] w w' := by
  have hi0 := indexFunc_first [p, q] v Bx least w hr hc (by simp) (by simp) h1
  obtain ⟨g, c, rfl, hc1, hc2, hg, hcell, hfr, cur, hcur⟩ := hr.shape (by simp)
  have hgB := hBx g rfl
  have HR := Lib.hid hr
  have hlt : Bx < w.heap.size := World.block_lt_of_cell? w _ hc
  simp only [List.length_cons, List.length_nil, Nat.zero_add, Nat.reduceAdd] at hc1 hi0 hr ⊢
  have HI := Lib.hid hi0
  clear hi0
  have HCE : Hid (∀ W, Below w.heap.size w W → W.cell? ⟨g, 2, none⟩ = some (.int .i64 q.1) ∧ W.cell? ⟨g, 3, none⟩ = some (.int .u64 q.2) ∧ W.cell? ⟨g, 0, none⟩ = some (.int .i64 p.1) ∧ W.cell? ⟨g, 1, none⟩ = some (.int .u64 p.2) ∧ W.frozen? ⟨g, 0, none⟩ = false ∧ W.frozen? ⟨g, 1, none⟩ = false ∧ W.frozen? ⟨g, 2, none⟩ = false ∧ W.frozen? ⟨g, 3, none⟩ = false ∧ W.cell? ⟨Bx, 0, none⟩ = some (.int .i64 least)) := Lib.hid (fun W hW => by
    obtain ⟨a0, a1⟩ := hcell 0 (by simp)
    obtain ⟨b0, b1⟩ := hcell 1 (by simp)
    have k := Kept.of_below [] hW
    exact ⟨(k.cellS hg (by simp)).trans b0, (k.cellS hg (by simp)).trans b1, (k.cellS hg (by simp)).trans a0, (k.cellS hg (by simp)).trans a1, (k.frozenS (p := ⟨g, 0, none⟩) hg (by simp)).trans (hfr 0), (k.frozenS (p := ⟨g, 1, none⟩) hg (by simp)).trans (hfr 1), (k.frozenS (p := ⟨g, 2, none⟩) hg (by simp)).trans (hfr 2), (k.frozenS (p := ⟨g, 3, none⟩) hg (by simp)).trans (hfr 3), (k.cellS hlt (by simp)).trans hc⟩)
  have HUQ : Hid (∀ W, W.cell? ⟨Bx, 0, none⟩ = some (.int .i64 least) → Calls Tryz.prog 223 #[.agg #[.int .i64 q.1, .int .u64 q.2], .pointer (some ⟨Bx, 0, none⟩)] W fun e w' => e = .returned (.bool false) ∧ Below W.heap.size W w') := Lib.hid (fun W hW => by
    have h3 := upd1_any q Bx least W hW
    rw [decide_eq_false (by omega)] at h3
    exact h3)
  clear hr hcell hfr hcur hc hBx h1 h2
  obtain ⟨qa, qx⟩ := q
  obtain ⟨pa, px⟩ := p
  simp only at HCE HUQ
  go_enter Tryz.func222, Tryz.ntmps222
  go_upto_region 4 with (go_at_call 254; (with_reducible refine HI.out.mono ?_); rintro e w1 ⟨rfl, hb1⟩)
  obtain ⟨a2, a3, a0, a1, f0, f1, f2, f3, bx⟩ := HCE.out w1 hb1
  have n0 : ∀ o, (w1.alloc o).cell? ⟨Bx, 0, none⟩ = some (.int .i64 least) := fun o => by rw [World.cell?_alloc_some _ _ _ (by rw [bx]; rfl)]; exact bx
  have hB1 := Lib.hid hb1
  clear hb1 f0 f1 f2 f3 a0 a1
  go_wp2
  refine wp_loop_rounds 2 ?_
  rw [rounds_succ]
  go_upto_region 9 with (go_at_call 223; (with_reducible refine (HUQ.out _ (n0 _)).mono ?_); rintro e w2 ⟨rfl, hb2⟩)
  have HB2 : Hid (Below w.heap.size w w2) := Lib.hid (bel_trans (bel_trans hB1.out (bel_alloc _ _)) hb2)
  have kbx : BlkIs #[.int .i64 qa, .int .u64 qx] 193 w1.heap.size w2 := BlkIs.below (BlkIs.new #[.int .i64 qa, .int .u64 qx] 193 w1) hb2
  have HNG : Hid (w1.heap.size ≠ g) := Lib.hid (by have := hB1.out.size; omega)
  clear a2 a3 bx n0 hb2
  obtain ⟨a2, a3, a0, a1, f0, f1, f2, f3, bx⟩ := HCE.out w2 HB2.out
  have b0 : w2.cell? ⟨w1.heap.size, 0, none⟩ = some (.int .i64 qa) := BlkIs.cell kbx 0
  have b1 : w2.cell? ⟨w1.heap.size, 1, none⟩ = some (.int .u64 qx) := BlkIs.cell kbx 1
  clear kbx bx
  generalize w1.heap.size = Eb at *
  go_wp2
  rw [rounds_succ]
  go_upto_region 11 with fail
  obtain ⟨W6, hW6⟩ : ∃ W6, (w2.setCell ⟨g, 0, none⟩ (.int .i64 qa)).setCell ⟨g, 1, none⟩ (.int .u64 qx) = W6 := ⟨_, rfl⟩
  have HK6 : Hid (Kept [g] w W6) := Lib.hid (by rw [← hW6]; exact ((Kept.of_below [g] HB2.out).setCell (.inl (by simp)) _).setCell (.inl (by simp)) _)
  have HR6 : Hid (PrRow [(qa, qx)] (.slice (some ⟨g, 0, none⟩) 1 c) W6) := Lib.hid (by
    have h5 := HR.out.kept (Kept.of_below [] HB2.out) (by simp)
    rcases h5.2 with ⟨hv, h0⟩ | ⟨g', cap, cur, hv, hB, hg', hcap, hcm, hs, ht⟩
    · cases hv
    · injection hv with e1 e2 e3
      injection e1 with e1
      injection e1 with e1
      subst e1 e3
      rw [← hW6]
      have k1 := heap_setCell_same w2 g 0 _ _ (.int .i64 qa) hg'
      have k2 := heap_setCell_same _ g 1 _ _ (.int .u64 qx) k1
      refine ⟨rfl, .inr ⟨g, c, _, rfl, hB, k2, by simp only [List.length_cons, List.length_nil]; omega, hcm, by simp only [Array.size_setIfInBounds]; exact hs, ?_⟩⟩
      have hsz : 2 ≤ cur.size := by
        have h6 := congrArg List.length ht
        rw [List.length_take] at h6
        simp [prList] at h6
        omega
      rw [Array.toList_setIfInBounds, Array.toList_setIfInBounds]
      have hcl : 2 ≤ cur.toList.length := by simpa using hsz
      revert hcl
      generalize cur.toList = L
      intro hcl
      rcases L with _ | ⟨a, _ | ⟨b, L⟩⟩
      · simp at hcl
      · simp at hcl
      · rfl)
  have z2 : W6.cell? ⟨g, 2, none⟩ = some (.int .i64 qa) := by rw [← hW6, World.cell?_setCell_other _ _ _ _ (fun h2 => by have := congrArg Addr.off h2; simp at this), World.cell?_setCell_other _ _ _ _ (fun h2 => by have := congrArg Addr.off h2; simp at this)]; exact a2
  have z3 : W6.cell? ⟨g, 3, none⟩ = some (.int .u64 qx) := by rw [← hW6, World.cell?_setCell_other _ _ _ _ (fun h2 => by have := congrArg Addr.off h2; simp at this), World.cell?_setCell_other _ _ _ _ (fun h2 => by have := congrArg Addr.off h2; simp at this)]; exact a3
  have y2 : W6.frozen? ⟨g, 2, none⟩ = false := by rw [← hW6, World.frozen?_setCell, World.frozen?_setCell]; exact f2
  have y3 : W6.frozen? ⟨g, 3, none⟩ = false := by rw [← hW6, World.frozen?_setCell, World.frozen?_setCell]; exact f3
  have hclr : ∀ ty cc, (Builtin.clear_ #[194] ty #[.slice (some ⟨g, 2, none⟩) 1 cc]).run Tryz.prog W6 = .ok (.tuple #[]) (W6.setCells g 2 [.int .i64 0, .int .u64 0]) := fun ty cc => run_clear_pr1 W6 ty g 2 cc (by rw [z2]; rfl) (by rw [z3]; rfl) y2 y3
  rw [hW6]
  clear hW6 a0 a1 a2 a3 b0 b1 f0 f1 f2 f3 z2 z3 y2 y3
  go_wp2
  go_ret
  refine ⟨g, c, rfl, rfl, ?_, ?_⟩
  · exact (HR6.out.setFar 2 (by simp) (.int .i64 0)).setFar 3 (by simp) (.int .u64 0)
  · exact (HK6.out.setCell (.inl (by simp)) _).setCell (.inl (by simp)) _
set_option maxHeartbeats 2000000 in
set_option maxRecDepth 100000 in
/-- An Update, and the one that was there is too old. -/
theorem rsetUpdate_drop (p0 : Pr) (x : Nat) (now r : Int) (hlast : p0.1 ≤ max 0 (min now 4611686018427387904))
    (hall : p0.1 < max 0 (min now 4611686018427387904) - 2 * max 0 (min r 1099511627776)) (P : Nat) (v : Value) (w : World) (h : SetAt [p0] P v w) :
    Calls Tryz.prog 199 #[.pointer (some ⟨P, 0, none⟩), .int .u64 x, .int .i64 now, .int .i64 r] w fun e w' => e = .returned (.tuple #[]) ∧ ∃ g c, SetAt [(max 0 (min now 4611686018427387904), x)] P (.slice (some ⟨g, 0, none⟩) 1 c) w' ∧ Kept (P :: own v) w w' ∧ (v.ownBlock = some g ∨ w.heap.size ≤ g) := by
  have HN := Lib.hid (fun W => rsetWithin_any now 4611686018427387904 (by decide) W)
  have HRr := Lib.hid (fun W => rsetWithin_any r 1099511627776 (by decide) W)
  obtain ⟨A, hA⟩ : ∃ A, max 0 (min now 4611686018427387904) = A := ⟨_, rfl⟩
  obtain ⟨R, hR⟩ : ∃ A, max 0 (min r 1099511627776) = A := ⟨_, rfl⟩
  have hAb : 0 ≤ A ∧ A ≤ 4611686018427387904 := by omega
  have hRb : 0 ≤ R ∧ R ≤ 1099511627776 := by omega
  rw [hA] at HN hlast hall ⊢
  rw [hR] at HRr hall
  obtain ⟨a0, a1⟩ := hAb
  obtain ⟨r0, r1⟩ := hRb
  have HH := Lib.hid h
  have HLAST := Lib.hid hlast
  have HALL := Lib.hid hall
  obtain ⟨L, hL⟩ : ∃ L, A - 2 * R = L := ⟨_, rfl⟩
  have HLe := Lib.hid hL
  have HPUT : Hid (∀ W, SetAt [p0] P v W → _) := Lib.hid (fun W hW => rsetPut_end [p0] (by simp) (by simp) (A, x) (by simpa using hlast) P v W hW)
  have HBOX : Hid (BlkIs #[.int .i64 L] 2 w.heap.size (w.alloc (.cells #[.int .i64 L] 2))) := Lib.hid (BlkIs.new _ _ _)
  have HSB : Hid (SetAt [p0] P v (w.alloc (.cells #[.int .i64 L] 2))) := Lib.hid (HH.out.below (bel_alloc _ _))
  have hPlt := h.set.lt
  clear hA hR hlast hall h
  go_enter Tryz.func199, Tryz.ntmps199
  go_upto_region 3 with (first
    | (go_at_call 220; (with_reducible refine (HN.out _).mono ?_); rintro e w1 ⟨rfl, rfl⟩)
    | (go_at_call 220; (with_reducible refine (HRr.out _).mono ?_); rintro e w1 ⟨rfl, rfl⟩))
  obtain ⟨W1, hW1⟩ : ∃ W1, w.alloc (.cells #[.int .i64 L] 2) = W1 := ⟨_, rfl⟩
  rw [hW1] at HBOX HSB ⊢
  have HK1 : Hid (Kept [] w W1) := Lib.hid (by rw [← hW1]; exact Kept.of_below _ (bel_alloc _ _))
  have HSZ : Hid (P < w.heap.size ∧ w.heap.size < W1.heap.size ∧ ∀ g, v.ownBlock = some g → g < w.heap.size) := Lib.hid ⟨hPlt, by rw [← hW1]; simp, fun g hg => (HH.out.row.lt g hg).2⟩
  clear hW1 hPlt hL
  obtain ⟨B, hB⟩ : ∃ B, w.heap.size = B := ⟨_, rfl⟩
  rw [hB] at HBOX HSZ ⊢
  have HBe := Lib.hid hB
  clear hB
  go_upto_region 4 with (go_at_call 221; (with_reducible refine (HPUT.out _ HSB.out).mono ?_); rintro e W2 ⟨rfl, g, c, hs2, hk2, hat2⟩)
  have HB2 : Hid (BlkIs #[.int .i64 L] 2 B W2) := Lib.hid (HBOX.out.kept hk2 (by
    have h1 := HSZ.out
    intro hm
    rcases List.mem_cons.1 hm with h2 | h2
    · omega
    · have h3 : v.ownBlock = some B := by
        unfold own at h2
        cases hv : v.ownBlock with
        | none => rw [hv] at h2; simp at h2
        | some q => rw [hv] at h2; simp at h2; rw [h2]
      have := h1.2.2 B h3
      omega))
  have HS2 := Lib.hid hs2
  have HK2 : Hid (Kept (P :: own v) w W2) := Lib.hid ((HK1.out.more (fun x hx => by cases hx)).trans' hk2)
  have HAT : Hid (v.ownBlock = some g ∨ w.heap.size ≤ g) := Lib.hid (by
    rcases hat2 with h | h
    · exact .inl h
    · exact .inr (Nat.le_trans HK1.out.size h))
  have hgb : ∀ q, (Value.slice (some ⟨g, 0, none⟩) 2 c).ownBlock = some q → q ≠ B := fun q hq => by
    have e : g = q := by simpa [Value.ownBlock] using hq
    subst e
    intro e2
    subst e2
    have h1 := HB2.out.lt
    rcases hat2 with h | h
    · have := HSZ.out.2.2 _ h; omega
    · have := HSZ.out; omega
  have HDEL := Lib.hid (deleteFunc_first p0 (A, x) (.slice (some ⟨g, 0, none⟩) 2 c) B L W2 hs2.row (BlkIs.cell HB2.out 0) hgb (by have h4 := HLe.out; have h5 := HALL.out; omega) (by have h4 := HLe.out; simp only; omega))
  have c0 : W2.cell? ⟨P, 0, none⟩ = some (.slice (some ⟨g, 0, none⟩) 2 c) := BlkIs.cell hs2.set 0
  have HPG : Hid (g ≠ P) := Lib.hid (hs2.ne g rfl)
  have HST2 := Lib.hid hs2.set
  have hcap : 2 ≤ c ∧ c ≤ 9223372036854775807 := by
    obtain ⟨g', c', e1, e2, e3, _⟩ := hs2.row.shape (by simp)
    injection e1 with _ _ e4
    simp at e2
    omega
  obtain ⟨hcap1, hcap2⟩ := hcap
  clear hs2 hk2 hat2 hgb HPUT HSB HBOX
  have HDL := Lib.hid (fun W => deletePr_none g 1 c (by omega) hcap2 W)
  go_upto_region 5 with (go_at_call 222; (with_reducible refine HDEL.out.mono ?_); rintro e W3 ⟨g3, c3, e3, rfl, hr3, hk3⟩; injection e3 with e3 _ e4; injection e3 with e3; injection e3 with e3; subst e3 e4; have hs3 := BlkIs.kept HST2.out hk3 (by simp; exact fun e => HPG.out e.symm); have f3 := BlkIs.free hs3 0; have c3 : W3.cell? ⟨P, 0, none⟩ = some (.slice (some ⟨g, 0, none⟩) 2 c) := BlkIs.cell hs3 0)
  obtain ⟨W4, hW4⟩ : ∃ W4, W3.setCell ⟨P, 0, none⟩ (.slice (some ⟨g, 0, none⟩) 1 c) = W4 := ⟨_, rfl⟩
  have HS4 : Hid (SetAt [(A, x)] P (.slice (some ⟨g, 0, none⟩) 1 c) W4) := Lib.hid (by
    rw [← hW4]
    exact ⟨BlkIs.set hs3 0 _, hr3.kept ((Kept.refl [P] W3).setCell (.inl (by simp)) _) (fun q hq => by
      have : g = q := by simpa [Value.ownBlock] using hq
      have := HPG.out
      simp; omega)⟩)
  have HK4 : Hid (Kept (P :: own v) w W4 ∨ w.heap.size ≤ g ∧ Kept (P :: g :: own v) w W4) := Lib.hid (by
    rw [← hW4]
    rcases HAT.out with h | h
    · left
      exact (HK2.out.trans' (hk3.more (fun z hz => by simp at hz; subst hz; simp [own, h]))).setCell (.inl (by simp)) _
    · right
      exact ⟨h, ((HK2.out.more (fun z hz => by simp at hz ⊢; rcases hz with hz | hz; exact .inl hz; exact .inr (.inr hz))).trans' (hk3.more (by simp))).setCell (.inl (by simp)) _⟩)
  rw [hW4]
  clear hW4 hs3 f3 c3 hk3 hr3 c0
  have c4 : W4.cell? ⟨P, 0, none⟩ = some (.slice (some ⟨g, 0, none⟩) 1 c) := BlkIs.cell HS4.out.set 0
  have f4 := BlkIs.free HS4.out.set 0
  have i5 : decide ((0 : Int) < (1 : Int) - 8) = false := by decide
  have HKF : Hid (Kept (P :: own v) w W4) := Lib.hid (by
    rcases HK4.out with h | ⟨h, k⟩
    · exact h
    · exact ⟨k.os, k.tape, k.output, k.size, fun z hz hn => k.block z hz (fun hm => by
        rcases List.mem_cons.1 hm with e | e
        · exact hn (by simp [e])
        · rcases List.mem_cons.1 e with e | e
          · omega
          · exact hn (by simp [e]))⟩)
  go_wp2
  go_region_with (go_at_call 224; (first | (with_reducible refine (HDL.out _).mono ?_) | (simp only [show max (0 : Int) (IntKind.i64.wrap (-7)) = 0 by decide]; with_reducible refine (HDL.out _).mono ?_)); rintro e w1 ⟨rfl, rfl⟩)
  all_goals
    go_wp2
    go_end0
    refine ⟨rfl, g, c, ?_, (HKF.out.setCell (.inl (by simp)) _).drew, HAT.out⟩
    exact ⟨BlkIs.set HS4.out.set 0 _, HS4.out.row.kept (((Kept.refl [P] W4).setCell (.inl (by simp)) _).drew) (fun q hq => by
      have : g = q := by simpa [Value.ownBlock] using hq
      have := HPG.out
      simp; omega)⟩
end Go.Proofs.YtnhlachoimlhhaaGreatDoor

namespace Go.Proofs.YtnhlachoimlhhaaGreatDoor
open Go.ChangeShapes Go.WideShapes Go.ChangeAt Go.RowKit
set_option linter.unusedVariables false
set_option linter.unusedSimpArgs false

set_option maxHeartbeats 1000000 in
/-- What was told takes the place of what was there. -/
theorem tfLimit_drop (s : TfS) (hs : s.ok) (p0 : Pr) (now : Int) (x p : Nat) (hx : x < 18446744073709551616)
    (hlast : p0.1 ≤ max 0 (min now 4611686018427387904))
    (hall : p0.1 < max 0 (min now 4611686018427387904) - 2 * max 0 (min s.rtt 1099511627776)) (C P : Nat) (v : Value) (w : World) (h : TfAt s [p0] C P v w) :
    Calls Tryz.prog 177 #[.pointer (some ⟨C, 0, none⟩), .int .i64 now, .int .u64 x, .int .u64 p, .bool false] w fun e w' => e = .returned (.int .u64 (M.mulT 2 (M.maxPr [(max 0 (min now 4611686018427387904), x)]))) ∧
      ∃ v', TfAt s [(max 0 (min now 4611686018427387904), x)] C P v' w' ∧ Kept (P :: own v) w w' ∧ (v'.ownBlock = v.ownBlock ∨ ∃ g, v'.ownBlock = some g ∧ w.heap.size ≤ g) := by
  have c2 : w.cell? ⟨C, 2, none⟩ = some (.int .i64 s.rtt) := BlkIs.cell h.tf 2
  have c4 : w.cell? ⟨C, 4, none⟩ = some (.pointer (some ⟨P, 0, none⟩)) := BlkIs.cell h.tf 4
  have HH := Lib.hid h
  have HU : Hid (∀ W, SetAt [p0] P v W → _) := Lib.hid (fun W hW => rsetUpdate_drop p0 x now s.rtt hlast hall P v W hW)
  obtain ⟨q, hq⟩ : ∃ q, (max 0 (min now 4611686018427387904), x) = q := ⟨_, rfl⟩
  rw [hq] at HU ⊢
  have hM : M.maxPr [q] < 18446744073709551616 := M.maxPr_lt _ (fun p hp => by
    simp at hp; subst hp; rw [← hq]; exact hx)
  have HMX : Hid (∀ P v W, SetAt [q] P v W → _) := Lib.hid (fun P v W hW => rsetMax_any [q] (by simp) (by simp) P v W hW)
  have HMU : Hid (∀ W, Calls Tryz.prog 88 #[.int .u64 2, .int .u64 (M.maxPr [q])] W fun e w' => e = .returned (.int .u64 (M.mulT 2 (M.maxPr [q]))) ∧ W = w') := Lib.hid (fun W => fixMul_any 2 _ (by decide) hM W)
  have HNC : Hid (C ∉ P :: own v) := Lib.hid (by
    intro hm
    rcases List.mem_cons.1 hm with h1 | h1
    · exact h.ne h1
    · unfold own at h1
      cases hv : v.ownBlock with
      | none => rw [hv] at h1; simp at h1
      | some g => rw [hv] at h1; simp at h1; exact h.ne2 g hv h1.symm)
  generalize M.mulT 2 (M.maxPr [q]) = R at *
  generalize M.maxPr [q] = m at *
  clear h hs hlast hall
  go_enter Tryz.func177, Tryz.ntmps177
  go_wp2
  have HDR : Hid (∀ n, SetAt [p0] P v (w.drewN n)) := Lib.hid (fun n => HH.out.set.drewN n)
  have HD1 : Hid (SetAt [p0] P v w.drew) := Lib.hid ⟨HH.out.set.set, HH.out.set.row⟩
  go_region_with ((go_at_call 199; (with_reducible refine (HU.out _ ?_).mono ?_); (exact HD1.out); rintro e W2 ⟨rfl, g, c, hs2, hk2, hat2⟩; have HT2 : Hid (BlkIs (tfCells s P) 129 C W2) := Lib.hid (BlkIs.kept (BlkIs.drewN HH.out.tf 1) hk2 HNC.out); have c4' : W2.cell? ⟨C, 4, none⟩ = some (.pointer (some ⟨P, 0, none⟩)) := BlkIs.cell HT2.out 4))
  all_goals
    go_wp2_with (first
      | (go_at_call 150; (with_reducible refine (HMX.out _ _ _ hs2).mono ?_); rintro e W3 ⟨rfl, hb3⟩)
      | (go_at_call 88; (with_reducible refine (HMU.out _).mono ?_); rintro e W4 ⟨rfl, rfl⟩))
    go_ret
    have hk3 : Kept (P :: own v) w W3 := ((Kept.refl (P :: own v) w).drew.trans' hk2).trans' (Kept.of_below _ hb3)
    refine ⟨rfl, _, ⟨HT2.out.below hb3, hs2.below hb3, HH.out.ne, ?_⟩, hk3, ?_⟩
    · intro q hq
      have hgq : g = q := by simpa [Value.ownBlock] using hq
      subst hgq
      rcases hat2 with h1 | h1
      · exact HH.out.ne2 g h1
      · have := HH.out.tf.lt; have h3 : w.heap.size ≤ g := h1; omega
    · rcases hat2 with h1 | h1
      · exact .inl (by rw [h1]; rfl)
      · exact .inr ⟨g, rfl, h1⟩
theorem tfWait_bd (s : TfS) (hs : s.ok) (hsr : s.size ≤ s.rate) (h1 : 1 ≤ s.rtt) : 4 ≤ M.tfWait s ∧ M.tfWait s ≤ 17179869184 := by
  unfold M.tfWait
  have h2 := hs.b2
  have h3 := hs.b0
  have h4 : 128 * s.size * 1000000 / s.rate ≤ 128000000 := Nat.div_le_of_le_mul (by omega)
  omega
/-- Left alone, i times it has fallen. -/
structure HvI (S i : Nat) (now : Int) (s : TfS) : Prop where
  ok : s.ok
  sz : s.size = S
  rt : 1 ≤ s.rtt
  rg : S ≤ s.rate
  n1 : 0 ≤ now
  n2 : now ≤ 1000 + (i : Int) * 17179869184
  st : (s.runs = true ∧ s.due = M.tfDue (M.tfWait s) now ∧ s.rate * 2 ^ i < 18446744073709551616) ∨ (s.runs = false ∧ s.rate = S)
theorem HvI.due {S i : Nat} {now : Int} {s : TfS} (h : HvI S i now s) (hi : i ≤ 70) (hr : s.runs = true) : s.due = now + M.tfWait s ∧ 4 ≤ M.tfWait s ∧ M.tfWait s ≤ 17179869184 := by
  obtain ⟨a, b⟩ := tfWait_bd s h.ok (by rw [h.sz]; exact h.rg) h.rt
  refine ⟨?_, a, b⟩
  rcases h.st with ⟨h1, h2, h3⟩ | ⟨h1, _⟩
  · rw [h2]
    have := h.n1
    have := h.n2
    unfold M.tfDue
    omega
  · rw [h1] at hr; cases hr
theorem HvI.low {S i : Nat} {now : Int} {s : TfS} (h : HvI S i now s) (hr : s.runs = true) : i < 64 := by
  rcases h.st with ⟨h1, h2, h3⟩ | ⟨h1, _⟩
  · have h5 : 1 ≤ s.rate := by have := h.rg; have := h.ok.b0; have := h.sz; omega
    rcases Nat.lt_or_ge i 64 with h4 | h4
    · exact h4
    · exfalso
      have h6 : 2 ^ 64 ≤ 2 ^ i := Nat.pow_le_pow_right (by decide) h4
      have h7 : 1 * 2 ^ i ≤ s.rate * 2 ^ i := Nat.mul_le_mul_right _ h5
      have h8 : (2 : Nat) ^ 64 = 18446744073709551616 := by decide
      omega
  · rw [h1] at hr; cases hr
theorem HvI.next {S i : Nat} {now : Int} {s : TfS} (h : HvI S i now s) (hr : s.runs = true) : HvI S (i + 1) s.due (s.fire s.due) := by
  have hi := h.low hr
  obtain ⟨d1, d2, d3⟩ := h.due (by omega) hr
  have hsz := h.sz
  have hrg := h.rg
  have n1 := h.n1
  have n2 := h.n2
  refine ⟨TfS.fire_ok h.ok (by omega) _, by rw [TfS.fire_size]; exact hsz, by rw [TfS.fire_rtt]; exact h.rt, by rw [TfS.fire_rate]; omega, by omega, by omega, ?_⟩
  unfold TfS.fire
  by_cases e : s.half.rate = s.size
  · rw [if_pos e]
    exact .inr ⟨rfl, by rw [← hsz, ← e]⟩
  · rw [if_neg e]
    refine .inl ⟨rfl, rfl, ?_⟩
    rcases h.st with ⟨h1, h2, h3⟩ | ⟨h1, _⟩
    · have h4 : s.half.rate = s.rate / 2 := by
        have : s.half.rate = max (s.rate / 2) s.size := rfl
        omega
      show s.half.rate * 2 ^ (i + 1) < _
      rw [h4, Nat.pow_succ]
      have h5 : s.rate / 2 * 2 ≤ s.rate := by omega
      have h6 : s.rate / 2 * 2 * 2 ^ i ≤ s.rate * 2 ^ i := Nat.mul_le_mul_right _ h5
      have h7 : s.rate / 2 * (2 ^ i * 2) = s.rate / 2 * 2 * 2 ^ i := by rw [Nat.mul_comm (2 ^ i) 2, Nat.mul_assoc]
      omega
    · rw [h1] at hr; cases hr
theorem mulT_ltK (a b : Nat) : M.mulT a b < 18446744073709551616 := by
  unfold M.mulT
  split
  · next h => exact h
  · decide
end Go.Proofs.YtnhlachoimlhhaaGreatDoor

namespace Go.Proofs.YtnhlachoimlhhaaGreatDoor
open Go.ChangeShapes Go.WideShapes Go.ChangeAt Go.RowKit
set_option linter.unusedVariables false
set_option linter.unusedSimpArgs false

/-- (The kernel tries the arguments of two projections alike first, so a struct that is turned in part is opened before its bounds are told.) -/
theorem TfS.nl_ok (s : TfS) (hs : s.ok) (R : Nat) (N : Int) (i rn p : Nat) (h1 : rn < 18446744073709551616) (h2 : (R : Int) ≤ 4294967296) (h3 : p ≤ 4294967296) (h4 : 0 ≤ N ∧ N ≤ 4611686018427387904) : ({ ({ s with rtt := R, rate := i, doubled := N } : TfS) with loss := p, rate := rn } : TfS).ok := by
  cases s
  exact ⟨hs.b0, h1, ⟨by show (0 : Int) ≤ (R : Int); omega, h2⟩, h3, h4⟩
theorem TfS.run_ok {s : TfS} (h : s.ok) (d : Int) : (s.run d).ok := ⟨h.b0, h.b1, h.b2, h.b3, h.b4⟩
theorem TfS.run_size (s : TfS) (d : Int) : (s.run d).size = s.size := by cases s; rfl
theorem TfS.run_rtt (s : TfS) (d : Int) : (s.run d).rtt = s.rtt := by cases s; rfl
theorem TfS.run_loss (s : TfS) (d : Int) : (s.run d).loss = s.loss := by cases s; rfl
/-- The first Hear, whatever it tells. -/
theorem tfHear_first_any (s : TfS) (hs : s.ok) (hr : s.rtt = 0) (N : Int) (hN : 0 ≤ N ∧ N ≤ 4611686018427387904) (R : Nat) (hR1 : 1 ≤ R) (hR2 : R ≤ 4294967296) (x p : Nat) (hx : x < 18446744073709551616) (hp : p < 18446744073709551616) :
    ∃ t' l', t'.ok ∧ t'.rtt = (R : Int) ∧ t'.loss = min p 4294967296 ∧ t'.size = s.size ∧ 0 < l'.length ∧ ∀ (C P : Nat) (v : Value) (w : World), TfAt s [(0, 18446744073709551615)] C P v w →
    Calls Tryz.prog 141 #[.pointer (some ⟨C, 0, none⟩), .int .i64 N, .int .i64 R, .int .u64 x, .int .u64 p, .bool false] w fun e w' => e = .returned (.tuple #[]) ∧
      ∃ v', TfAt t' l' C P v' w' ∧ Kept (C :: P :: own v) w w' ∧ (v'.ownBlock = v.ownBlock ∨ ∃ g, v'.ownBlock = some g ∧ w.heap.size ≤ g) := by
  have hR : max 1 (min (R : Int) 4294967296) = (R : Int) := by omega
  have hNN : max 0 (min N 4611686018427387904) = N := by omega
  obtain ⟨X, hX⟩ : ∃ X, min x 1125899906842624 = X := ⟨_, rfl⟩
  have hXb : X < 18446744073709551616 := by omega
  have hI := M.tfInit_bd s.size R hs.b0.2
  have hb0 := hs.b0
  have hok : ({ s with rtt := R, rate := M.tfInit s.size R, doubled := N } : TfS).ok := ⟨hs.b0, hI, by simp only; omega, hs.b3, by simp only; omega⟩
  have h1r : ({ s with rtt := R, rate := M.tfInit s.size R, doubled := N } : TfS).rtt = (R : Int) := rfl
  have hlim : ∃ LIM l', LIM < 18446744073709551616 ∧ 0 < l'.length ∧ ∀ pp C P v, LimIs { s with rtt := R, rate := M.tfInit s.size R, doubled := N } [(0, 18446744073709551615)] C P v N X pp false LIM l' := by
    have hm : ∀ a b : Nat, M.mulT a b < 18446744073709551616 := mulT_ltK
    generalize ({ s with rtt := R, rate := M.tfInit s.size R, doubled := N } : TfS) = s1 at *
    have hrr : s1.rtt = (R : Int) := h1r
    by_cases h5 : N - 2 * (R : Int) ≤ 0
    · refine ⟨M.mulT 2 (M.maxPr ([(0, 18446744073709551615)] ++ [(N, X)])), [(0, 18446744073709551615)] ++ [(N, X)], hm _ _, by rw [List.length_append]; exact Nat.succ_pos _, fun pp C P v W hW => ?_⟩
      have h9 := tfLimit_upd s1 hok [(0, 18446744073709551615)] (by decide) (by decide) (by simp) N X pp hXb (by rw [hNN]; exact hN.1) (fun i hi => by
        have : i = 0 := by simpa using hi
        subst this
        rw [hNN, hrr, List.getD_cons_zero]
        show _ ≤ (0 : Int)
        omega) C P v W hW
      rw [hNN] at h9
      exact h9
    · refine ⟨M.mulT 2 (M.maxPr [(N, X)]), [(N, X)], hm _ _, Nat.succ_pos _, fun pp C P v W hW => ?_⟩
      have h9 := tfLimit_drop s1 hok (0, 18446744073709551615) N X pp hXb (by rw [hNN]; exact hN.1) (by rw [hNN, hrr]; show (0 : Int) < _; omega) C P v W hW
      rw [hNN] at h9
      exact h9
  obtain ⟨LIM, l', h1, h2, h3⟩ := hlim
  by_cases hp0 : p = 0
  · subst hp0
    rw [show (((0 : Nat) : Int)) = 0 from rfl]
    have h9 := fun (C P : Nat) (v : Value) (w : World) (h : TfAt s [(0, 18446744073709551615)] C P v w) => tfHear_first_none s hs N R x hx N hNN R hR hr X hX (by omega) false _ l' LIM h1 C P v w h (h3 0 C P v)
    obtain ⟨u, hu⟩ : ∃ u, ({ ({ s with rtt := R, rate := M.tfInit s.size R, doubled := N } : TfS) with loss := 0, rate := max (M.tfInit s.size R) s.size } : TfS) = u := ⟨_, rfl⟩
    have u0 : u.ok := by rw [← hu]; exact TfS.nl_ok s hs R N _ _ _ (by omega) (by omega) (by omega) hN
    have u1 : u.rtt = (R : Int) := by rw [← hu]
    have u2 : u.loss = 0 := by rw [← hu]
    have u3 : u.size = s.size := by rw [← hu]
    rw [hu] at h9
    exact ⟨u.run (M.tfDue (M.tfWait u) N), l', TfS.run_ok u0 _, (TfS.run_rtt u _).trans u1, ((TfS.run_loss u _).trans u2).trans (Nat.zero_min _).symm, (TfS.run_size u _).trans u3, h2, h9⟩
  · obtain ⟨pp, hpp⟩ : ∃ pp, min p 4294967296 = pp := ⟨_, rfl⟩
    have h9 := fun (C P : Nat) (v : Value) (w : World) (h : TfAt s [(0, 18446744073709551615)] C P v w) => tfHear_first_p s hs N R x hx N hNN R hR hr X hX p pp hp hpp (by omega) false _ l' LIM h1 C P v w h (h3 pp C P v)
    obtain ⟨G, hG⟩ : ∃ G, M.eqnRate s.size R pp = G := ⟨_, rfl⟩
    rw [hG] at h9
    obtain ⟨u, hu⟩ : ∃ u, ({ ({ s with rtt := R, rate := M.tfInit s.size R, doubled := N } : TfS) with loss := pp, rate := max (min G LIM) s.size } : TfS) = u := ⟨_, rfl⟩
    have u0 : u.ok := by rw [← hu]; exact TfS.nl_ok s hs R N _ _ _ (by omega) (by omega) (by omega) hN
    have u1 : u.rtt = (R : Int) := by rw [← hu]
    have u2 : u.loss = pp := by rw [← hu]
    have u3 : u.size = s.size := by rw [← hu]
    rw [hu] at h9
    exact ⟨u.run (M.tfDue (M.tfWait u) N), l', TfS.run_ok u0 _, (TfS.run_rtt u _).trans u1, ((TfS.run_loss u _).trans u2).trans hpp.symm, (TfS.run_size u _).trans u3, h2, h9⟩
end Go.Proofs.YtnhlachoimlhhaaGreatDoor

namespace Go.Proofs.YtnhlachoimlhhaaGreatDoor
open Go.ChangeShapes Go.WideShapes Go.ChangeAt Go.RowKit
set_option linter.unusedVariables false
set_option linter.unusedSimpArgs false

set_option maxHeartbeats 16000000 in
set_option maxRecDepth 100000 in
theorem ctrlHear_walk (sz rz : Int) (s1 : -9223372036854775808 ≤ sz) (s2 : sz ≤ 9223372036854775807) (x p : Nat) (hx : x < 18446744073709551616) (hp : p < 18446744073709551616) (w : World)
    (hbg : Calls Tryz.prog 14 #[] w fun e w' => e = .returned (.bool true) ∧ Below w.heap.size w w') :
    Calls Tryz.prog 8 #[.int .i64 sz, .int .i64 rz, .int .u64 x, .int .u64 p] w fun e w' => e = .returned (.bool true) ∧ Below w.heap.size w w' := by
  have HBG := Lib.hid hbg
  clear hbg
  obtain ⟨u0, e0, e01, e02, S0, e03, e04⟩ := mod_at sz 1400 (by decide)
  obtain ⟨S, hS⟩ : ∃ S : Nat, 1 + (S0 : Int) = (S : Int) := ⟨1 + S0, by omega⟩
  have hS1 : 1 ≤ S := by omega
  have hS2 : S ≤ 1400 := by omega
  obtain ⟨r0, hr0⟩ : ∃ r0, min rz 1073741824 = r0 := ⟨_, rfl⟩
  obtain ⟨r1, hr1⟩ : ∃ r1, max 0 r0 = r1 := ⟨_, rfl⟩
  obtain ⟨t1, t2, _, t4, _⟩ := mni _ _ r0 hr0
  obtain ⟨t5, t6, t7, _, t8⟩ := mxi _ _ r1 hr1
  obtain ⟨R, hR⟩ : ∃ R : Nat, 1 + r1 = (R : Int) := ⟨(1 + r1).toNat, by omega⟩
  have hR1 : 1 ≤ R := by omega
  have hR2 : R ≤ 1073741825 := by omega
  obtain ⟨pp, hpp⟩ : ∃ pp, min p 4294967296 = pp := ⟨_, rfl⟩
  have m4 : min (p : Int) 4294967296 = (pp : Int) := by omega
  have m5 : (if (4294967296 : Int) < (p : Int) then (4294967296 : Int) else (p : Int)) = (pp : Int) := by split <;> omega
  have m6 : ((pp : Int) == (pp : Int)) = true := beq_self_eq_true _
  obtain ⟨t', l', a1, a2, a3, a4, a5, a6⟩ := tfHear_first_any (tfFirst S) (tfFirst_ok S hS1 hS2) rfl 5 (by decide) R hR1 (by omega) x p hx hp
  rw [hpp] at a3
  have tok := tfFirst_ok S hS1 hS2
  have HOR := Lib.hid (fun W => ctOf_rate S hS1 hS2 W)
  have HT := Lib.hid a6
  go_enter Tryz.func8, Tryz.ntmps8
  go_upto_region 6 with (first
    | (go_at_call 14; (with_reducible refine HBG.out.mono ?_); rintro e w0 ⟨rfl, hb0⟩)
    | (go_at_call 30; (with_reducible refine (HOR.out _).mono ?_); rintro e w2 ⟨K, C, P, B, v, rfl, hr, hK, hC, hP, hB, hv, hb2⟩))
  have HR0 := Lib.hid hr
  have HBL : Hid (Below w.heap.size w w2) := Lib.hid (bel_trans hb0 hb2)
  have HZ : Hid (w.heap.size ≤ K ∧ w.heap.size ≤ C ∧ w.heap.size ≤ P ∧ w.heap.size ≤ B ∧ ∀ q, v.ownBlock = some q → w.heap.size ≤ q) := Lib.hid (by have := hb0.size; exact ⟨by omega, by omega, by omega, by omega, fun q hq => by have := hv q hq; omega⟩)
  clear hr hb0 hb2 hK hC hP hB hv HOR HBG a6
  unfold crV at *
  have q2 := eqR_N
  have q3 := naR_Hear
  have q4 := meR_Hear
  have RR : Hid (∀ (p : PcS) (g : Nat) W, CrAt (tfFirst S) [(0, 18446744073709551615)] p g K C P B v W → Calls Tryz.prog 33 #[.iface 121 (.pointer (some ⟨K, 0, none⟩))] W fun e w' => e = .returned (.pointer (some ⟨C, 0, none⟩)) ∧ W = w') := Lib.hid (fun p g W hW => ctRate_rate hW)
  have T0 : Hid (∀ (p : PcS) (g : Nat) W, CrAt (tfFirst S) [(0, 18446744073709551615)] p g K C P B v W → Calls Tryz.prog 34 #[.pointer (some ⟨C, 0, none⟩)] W fun e w' => e = .returned (.int .u64 ((64 * S : Nat) : Int)) ∧ W = w') := Lib.hid (fun p g W hW => tfRate_any (tfFirst S) tok _ C P v W hW.tf)
  have T1 : Hid (∀ (p : PcS) (g : Nat) W, CrAt (tfFirst S) [(0, 18446744073709551615)] p g K C P B v W → Calls Tryz.prog 50 #[.pointer (some ⟨C, 0, none⟩)] W fun e w' => e = .returned (.int .i64 0) ∧ W = w') := Lib.hid (fun p g W hW => tfRtt_any (tfFirst S) tok _ C P v W hW.tf)
  go_upto_region 9 with (first
    | (go_at_call 33; (with_reducible refine (RR.out _ _ _ HR0.out).mono ?_); rintro e wq ⟨rfl, rfl⟩)
    | (go_at_call 34; (with_reducible refine (T0.out _ _ _ HR0.out).mono ?_); rintro e wq ⟨rfl, rfl⟩))
  have HN : Hid (∀ (u0 u1 u2 u3 : Value) W, CrAt (tfFirst S) [(0, 18446744073709551615)] pcFirst 0 K C P B v W → Calls Tryz.prog 360 #[.pointer (some ⟨K, 0, none⟩), .int .i64 5, .agg #[u0, u1, u2, u3, .int .i64 (-1)], .int .u64 x, .int .u64 p] W fun e w' => e = .returned (.tuple #[]) ∧ CrAt (tfFirst S) [(0, 18446744073709551615)] (crP (tfFirst S) pcFirst 0 5) (tfFirst S).rate K C P B v w' ∧ Kept [K, B] W w') := Lib.hid (fun u0 u1 u2 u3 W hW => crHear_none hW tok pcFirst_ok 5 u0 u1 u2 u3 (-1) (by decide) x p)
  have pok := crP_ok 0 5 tok pcFirst_ok
  have HS : Hid (∀ (u0 u1 u2 u3 : Value) W, CrAt (tfFirst S) [(0, 18446744073709551615)] (crP (tfFirst S) pcFirst 0 5) (tfFirst S).rate K C P B v W → Calls Tryz.prog 360 #[.pointer (some ⟨K, 0, none⟩), .int .i64 5, .agg #[u0, u1, u2, u3, .int .i64 R], .int .u64 x, .int .u64 p] W fun e w' => e = .returned (.tuple #[]) ∧
      ∃ v', CrAt t' l' (crQ (tfFirst S) t' (crP (tfFirst S) pcFirst 0 5) (tfFirst S).rate 5) t'.rate K C P B v' w' ∧ Kept (K :: B :: C :: P :: own v) W w' ∧ (v'.ownBlock = v.ownBlock ∨ ∃ q, v'.ownBlock = some q ∧ W.heap.size ≤ q)) := Lib.hid (fun u0 u1 u2 u3 W hW => crHear_some hW tok pok 5 u0 u1 u2 u3 R (by omega) x p a1 (fun W hW => HT.out C P v W hW))
  generalize crQ (tfFirst S) t' (crP (tfFirst S) pcFirst 0 5) (tfFirst S).rate 5 = p2 at *
  generalize crP (tfFirst S) pcFirst 0 5 = p1 at *
  have T2 : Hid (∀ (p : PcS) (g : Nat) v' W, CrAt t' l' p g K C P B v' W → Calls Tryz.prog 50 #[.pointer (some ⟨C, 0, none⟩)] W fun e w' => e = .returned (.int .i64 (R : Int)) ∧ W = w') := Lib.hid (fun p g v' W hW => by
    have h9 := tfRtt_any t' a1 _ C P v' W hW.tf
    rw [a2] at h9
    exact h9)
  have T3 : Hid (∀ (p : PcS) (g : Nat) v' W, CrAt t' l' p g K C P B v' W → Calls Tryz.prog 51 #[.pointer (some ⟨C, 0, none⟩)] W fun e w' => e = .returned (.int .u64 (pp : Int)) ∧ W = w') := Lib.hid (fun p g v' W hW => by
    have h9 := tfLoss_any t' a1 _ C P v' W hW.tf
    rw [a3] at h9
    exact h9)
  have R2 : Hid (∀ (p : PcS) (g : Nat) v' W, CrAt t' l' p g K C P B v' W → Calls Tryz.prog 33 #[.iface 121 (.pointer (some ⟨K, 0, none⟩))] W fun e w' => e = .returned (.pointer (some ⟨C, 0, none⟩)) ∧ W = w') := Lib.hid (fun p g v' W hW => ctRate_rate hW)
  clear a1 a2 a3 a4 a5 HT tok pok
  go_upto_region 10 with (go_at_call 360; (with_reducible refine (HN.out _ _ _ _ _ (HR0.out.below (bel_alloc _ _))).mono ?_); rintro e w3 ⟨rfl, h3, k3⟩)
  have H3 := Lib.hid h3
  have HB3 : Hid (Below w.heap.size w w3) := Lib.hid ((bel_trans HBL.out (bel_alloc w2 _)).trans (k3.below (bel_trans HBL.out (bel_alloc w2 _)).size (by intro y hy; have := HZ.out; simp at hy; omega)))
  clear h3 k3 HR0 HBL HN
  go_upto_region 12 with (first
    | (go_at_call 33; (with_reducible refine (RR.out _ _ _ H3.out).mono ?_); rintro e wq ⟨rfl, rfl⟩)
    | (go_at_call 34; (with_reducible refine (T0.out _ _ _ H3.out).mono ?_); rintro e wq ⟨rfl, rfl⟩)
    | (go_at_call 50; (with_reducible refine (T1.out _ _ _ H3.out).mono ?_); rintro e wq ⟨rfl, rfl⟩))
  go_upto_region 13 with (go_at_call 360; (with_reducible refine (HS.out _ _ _ _ _ (H3.out.below (bel_alloc _ _))).mono ?_); rintro e w4 ⟨rfl, v4, h4, k4, o4⟩)
  have H4 := Lib.hid h4
  have HB4 : Hid (Below w.heap.size w w4) := Lib.hid ((bel_trans HB3.out (bel_alloc w3 _)).trans (k4.below (bel_trans HB3.out (bel_alloc w3 _)).size (by
    intro y hy
    have hz := HZ.out
    rcases List.mem_cons.1 hy with e | hy
    · omega
    rcases List.mem_cons.1 hy with e | hy
    · omega
    rcases List.mem_cons.1 hy with e | hy
    · omega
    rcases List.mem_cons.1 hy with e | hy
    · omega
    unfold own at hy
    cases hq : v.ownBlock with
    | none => rw [hq] at hy; simp at hy
    | some q => rw [hq] at hy; simp at hy; rw [hy]; exact hz.2.2.2.2 q hq)))
  clear h4 k4 o4 H3 HB3 HS RR T0 T1
  go_wp2_with (first
    | (go_at_call 33; (with_reducible refine (R2.out _ _ _ _ H4.out).mono ?_); rintro e wq ⟨rfl, rfl⟩)
    | (go_at_call 50; (with_reducible refine (T2.out _ _ _ _ H4.out).mono ?_); rintro e wq ⟨rfl, rfl⟩)
    | (go_at_call 51; (with_reducible refine (T3.out _ _ _ _ H4.out).mono ?_); rintro e wq ⟨rfl, rfl⟩))
  go_ret
  exact ⟨rfl, HB4.out⟩
end Go.Proofs.YtnhlachoimlhhaaGreatDoor
