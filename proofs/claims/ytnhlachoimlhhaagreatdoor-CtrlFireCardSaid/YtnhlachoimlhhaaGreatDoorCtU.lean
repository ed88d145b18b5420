/-
  Package tfrc: Fire, nothing heard yet.
-/
import Derived.Test.YtnhlachoimlhhaaGreatDoorTfV
namespace Go.Proofs.YtnhlachoimlhhaaGreatDoor
open Go.ChangeShapes Go.WideShapes Go.ChangeAt Go.RowKit
set_option linter.unusedVariables false
set_option linter.unusedSimpArgs false

set_option maxHeartbeats 2000000 in
set_option maxRecDepth 100000 in
theorem tfFire_first (s : TfS) (hs : s.ok) (hr : s.rtt = 0) (hsr : s.size ≤ s.rate) (hrun : s.runs = true) (now : Int) (hn : -9223372036854775808 ≤ now ∧ now ≤ 9223372036854775807) (hd : s.due ≤ now)
    (l : List Pr) (C P : Nat) (v : Value) (w : World) (h : TfAt s l C P v w) :
    Calls Tryz.prog 350 #[.pointer (some ⟨C, 0, none⟩), .int .i64 now] w fun e w' => e = .returned (.bool true) ∧
      TfAt (s.fire now) l C P v w' ∧ Kept [C] w w' := by
  have HM := Lib.hid (tfMade_any s hs l C P v w h)
  have c0 : w.cell? ⟨C, 0, none⟩ = some (.int .u64 s.size) := BlkIs.cell h.tf 0
  have c1 : w.cell? ⟨C, 1, none⟩ = some (.int .u64 s.rate) := BlkIs.cell h.tf 1
  have c7 : w.cell? ⟨C, 7, none⟩ = some (.int .i64 s.due) := BlkIs.cell h.tf 7
  have c8 : w.cell? ⟨C, 8, none⟩ = some (.bool s.runs) := BlkIs.cell h.tf 8
  have f1 := BlkIs.free h.tf 1
  rw [hrun] at c8
  have hd1 : decide (now < s.due) = false := decide_eq_false (by omega)
  obtain ⟨b1, b2⟩ := hs.b0
  have hb3 := hs.b1
  obtain ⟨q, hq⟩ : ∃ q, s.rate / 2 = q := ⟨_, rfl⟩
  obtain ⟨J, hJ⟩ : ∃ J, max q s.size = J := ⟨_, rfl⟩
  have hhalf : Hid (s.half = { s with rate := J }) := Lib.hid (by unfold TfS.half; rw [hq, hJ])
  obtain ⟨j1, j2, j3, j4, j5, j6⟩ := mxs q s.size J hJ
  have hJb : J < 18446744073709551615 := by omega
  have hk0 : Kept [C] w (w.setCell ⟨C, 1, none⟩ (.int .u64 J)) := (Kept.refl _ _).setCell (.inl (by simp)) _
  have HT0 : TfAt s.half l C P v (w.setCell ⟨C, 1, none⟩ (.int .u64 J)) := by
    rw [hhalf.out]
    exact ⟨BlkIs.set h.tf 1 _, h.set.kept hk0 (by simp; exact fun e => h.ne e.symm) (fun g hg => by simp; exact h.ne2 g hg), h.ne, h.ne2⟩
  have HT : Hid (TfAt s.half l C P v ((w.setCell ⟨C, 1, none⟩ (.int .u64 J)).drew)) := Lib.hid (HT0.drewN 1)
  have HK1 : Hid (Kept [C] w ((w.setCell ⟨C, 1, none⟩ (.int .u64 J)).drew)) := Lib.hid hk0.drew
  have HOK : Hid (s.half.ok ∧ s.half.size ≤ s.half.rate) := Lib.hid ⟨TfS.half_ok hs hsr, by rw [hhalf.out]; exact j6⟩
  have HNE := Lib.hid h.ne
  have HNE2 : Hid (∀ g, v.ownBlock = some g → g ≠ C) := Lib.hid h.ne2
  have HCL : Hid (C < w.heap.size) := Lib.hid h.tf.lt
  have HFI : Hid (s.fire now = if J = s.size then { s.half with due := 0, runs := false } else s.half.run (M.tfDue (M.tfWait s.half) now)) := Lib.hid (by unfold TfS.fire; rw [hhalf.out])
  have HCE : Hid (∀ l P v W, TfAt s.half l C P v W → W.cell? ⟨C, 0, none⟩ = some (.int .u64 s.size) ∧ W.cell? ⟨C, 1, none⟩ = some (.int .u64 J) ∧ W.cell? ⟨C, 2, none⟩ = some (.int .i64 s.rtt) ∧ W.cell? ⟨C, 4, none⟩ = some (.pointer (some ⟨P, 0, none⟩)) ∧ ∀ i, W.frozen? ⟨C, i, none⟩ = false) := Lib.hid (fun l P v W hW => by
    have h1 : BlkIs _ _ C _ := hW.tf
    rw [hhalf.out] at h1
    exact ⟨BlkIs.cell h1 0, BlkIs.cell h1 1, BlkIs.cell h1 2, BlkIs.cell h1 4, BlkIs.free h1⟩)
  have HRN : Hid (∀ l v W, TfAt s.half l C P v W → Calls Tryz.prog 178 #[.pointer (some ⟨C, 0, none⟩), .int .i64 now] W fun e w' => e = .returned (.tuple #[]) ∧ TfAt (s.half.run (M.tfDue (M.tfWait s.half) now)) l C P v w' ∧ Kept [C] W w') := Lib.hid (fun l v W hW => tfRunOn_any s.half HOK.out.1 HOK.out.2 now hn l C P v W hW)
  have hdiv2 : (s.rate : Int) / 2 = (q : Int) := by omega
  have hz : (s.rtt != 0) = false := by rw [hr]; rfl
  clear h hs hq hJ j4 hrun hsr HT0 hk0 hr
  generalize s.rate = rt at *
  generalize s.size = sz at *
  go_enter Tryz.func350, Tryz.ntmps350
  go_upto_region 3 with (go_at_call 77; (with_reducible refine HM.out.mono ?_); rintro e w1 ⟨rfl, rfl⟩)
  go_region
  all_goals
    generalize (w.setCell ⟨C, 1, none⟩ (.int .u64 J)).drew = W1 at *
    obtain ⟨a0, a1, a2, a4, af⟩ := HCE.out _ _ _ _ HT.out
    go_upto_region 6 with fail
    go_quiet (fail)
    have HT3 : Hid (TfAt s.half l C P v (W1.drewN nq)) := Lib.hid (HT.out.drewN nq)
    have HK3 : Hid (Kept [C] w (W1.drewN nq)) := Lib.hid (HK1.out.drewN nq)
    clear a0 a1 a2 a4 af hdiv2 j1 j2 j3 hd1
    generalize W1.drewN nq = W3 at *
    by_cases hJs : J = sz
    · rw [if_pos hJs] at HFI
      have hJE := Lib.hid (show (J : Int) = (sz : Int) by omega)
      clear hJs
      obtain ⟨a0, a1, a2, a4, af⟩ := HCE.out _ _ _ _ HT3.out
      have a7 : W3.cell? ⟨C, 7, none⟩ = some (.int .i64 s.due) := BlkIs.cell HT3.out.tf 7
      have a8 : W3.cell? ⟨C, 8, none⟩ = some (.bool s.runs) := BlkIs.cell HT3.out.tf 8
      have b7 := af 7
      have b8 := af 8
      clear af a0 a1 a2 a4
      rename_i KA hA KB hB
      simp only [Exit.then]
      refine hB _ _ ?_
      have HA := Lib.hid hA
      clear hB hA
      refine wp_cond_true (by first | rfl | (simp [Act.eval]; exact hJE.out)) ?_
      go_wp2
      refine HA.out _ _ ?_
      clear HA
      go_wp2
      go_ret
      have hk8 : Kept [C] W3 ((W3.setCell ⟨C, 7, none⟩ (.int .i64 0)).setCell ⟨C, 8, none⟩ (.bool false)) := ((Kept.refl _ _).setCell (.inl (by simp)) _).setCell (.inl (by simp)) _
      refine ⟨rfl, ⟨?_, HT3.out.set.kept hk8 (by simp; exact fun e => HNE.out e.symm) (fun q hq => by simp; exact HT3.out.ne2 q hq), HNE.out, HT3.out.ne2⟩, HK3.out.trans' hk8⟩
      rw [HFI.out]
      exact BlkIs.set (BlkIs.set HT3.out.tf 7 _) 8 _
    · rw [if_neg hJs] at HFI
      have hJb2 : ((J : Int) == (sz : Int)) = false := by rw [beq_eq_false_iff_ne]; omega
      have HRW := Lib.hid (HRN.out _ _ W3 HT3.out)
      rename_i KA hA KB hB
      simp only [Exit.then]
      refine hB _ _ ?_
      have HA := Lib.hid hA
      clear hB hA
      refine wp_cond_false (by first | rfl | (simp [Act.eval]; omega) | (simp [Act.eval])) ?_
      go_wp2_with (go_at_call 178; (with_reducible refine HRW.out.mono ?_); rintro e W4 ⟨rfl, ht4, hk4⟩)
      refine HA.out _ _ ?_
      clear HA
      go_wp2
      go_ret
      refine ⟨rfl, ?_, HK3.out.trans' hk4⟩
      rw [HFI.out]
      exact ht4
end Go.Proofs.YtnhlachoimlhhaaGreatDoor
