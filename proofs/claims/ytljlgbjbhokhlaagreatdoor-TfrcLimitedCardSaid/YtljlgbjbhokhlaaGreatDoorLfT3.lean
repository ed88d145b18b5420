/-
  What the laid table of the weights says.
  The law TfrcLimited, walked.
-/
import Derived.Test.YtljlgbjbhokhlaaGreatDoorIvalA
import Derived.Test.YtljlgbjbhokhlaaGreatDoorRows
import Derived.Lib.LaidU8
import Derived.Lib.LaidTab
import Derived.MakeChecks
import Derived.OpenShut
import Derived.Test.YtljlgbjbhokhlaaGreatDoorLfT
import Derived.Test.YtljlgbjbhokhlaaGreatDoorBegun8
namespace Go.Proofs.YtljlgbjbhokhlaaGreatDoor
open Go.ChangeShapes Go.WideShapes Go.ChangeAt Go.RowKit
set_option linter.unusedVariables false
set_option linter.unusedSimpArgs false

theorem tabW_laid {W : World} {l : List (String × DataW Unit)} (h : laidMet Tryz.prog l W) (hm : ("muleteer/ival.weights", (Rows.laid_muleteer_ival_weights : DataW Unit)) ∈ l) : TabW W := by
  obtain ⟨ps, h, _⟩ := h
  obtain ⟨g, t, cs, fuel, p, hg, ht, hvar, hd⟩ := Lib.LaidVars_reads h _ _ hm
  rw [show (Rows.laid_muleteer_ival_weights : DataW Unit) = Lib.tabData .u64 [5, 5, 5, 5, 4, 3, 2, 1] by kernel_rfl] at hd
  have e : Tryz.prog.globalNamed "muleteer/ival.weights" = some 2 := by kernel_rfl
  obtain rfl := Option.some.inj (e.symm.trans hg)
  obtain rfl : t = 227 := (Option.some.inj ((show (Tryz.prog.globals[2]?).map (·.type) = some 227 by kernel_rfl).symm.trans ht)).symm
  have hc := Lib.cells_of_tab Tryz.underlying227 Tryz.underlying22 (by kernel_rfl) (by kernel_rfl) hd
  obtain ⟨cl⟩ := cs
  simp only at hc
  subst hc
  intro i hi
  have h1 := World.var?_cell e hvar i
  rw [h1]
  obtain rfl | rfl | rfl | rfl | rfl | rfl | rfl | rfl : i = 0 ∨ i = 1 ∨ i = 2 ∨ i = 3 ∨ i = 4 ∨ i = 5 ∨ i = 6 ∨ i = 7 := by omega
  all_goals rfl
end Go.Proofs.YtljlgbjbhokhlaaGreatDoor

namespace Go.Proofs.YtljlgbjbhokhlaaGreatDoor
open Go.ChangeShapes Go.WideShapes Go.ChangeAt Go.RowKit
set_option linter.unusedVariables false
set_option linter.unusedSimpArgs false

theorem kb3 {w W W' : World} {C P : Nat} {v : Value} (h : Below w.heap.size w W) (k : Kept (C :: P :: own v) W W') (hC : w.heap.size ≤ C) (hP : w.heap.size ≤ P) (hv : ∀ g, v.ownBlock = some g → w.heap.size ≤ g) : Below w.heap.size w W' := h.trans (k.below h.size (by
  intro x hx
  rcases List.mem_cons.1 hx with e | hx
  · omega
  · rcases List.mem_cons.1 hx with e | hx
    · omega
    · unfold own at hx
      cases hv2 : v.ownBlock with
      | none => rw [hv2] at hx; cases hx
      | some g => rw [hv2] at hx; simp at hx; have := hv g hv2; omega))
theorem ownUp {w W : World} {v v' : Value} (hb : w.heap.size ≤ W.heap.size) (hv : ∀ g, v.ownBlock = some g → w.heap.size ≤ g) (h : v'.ownBlock = v.ownBlock ∨ ∃ g, v'.ownBlock = some g ∧ W.heap.size ≤ g) : ∀ g, v'.ownBlock = some g → w.heap.size ≤ g := by
  intro g hg
  rcases h with h | ⟨q, h, h2⟩
  · exact hv g (by rw [← h]; exact hg)
  · rw [h] at hg; cases hg; omega
/-- A rate that lies above all that was there. -/
structure TfUp (w : World) (C P : Nat) (v : Value) (W : World) : Prop where
  b : Below w.heap.size w W
  c : w.heap.size ≤ C
  p : w.heap.size ≤ P
  v : ∀ g, v.ownBlock = some g → w.heap.size ≤ g
theorem TfUp.next {w : World} {C P : Nat} {v v' : Value} {W W' : World} (h : TfUp w C P v W) (k : Kept (C :: P :: own v) W W') (hv : v'.ownBlock = v.ownBlock ∨ ∃ g, v'.ownBlock = some g ∧ W.heap.size ≤ g) : TfUp w C P v' W' := ⟨kb3 h.b k h.c h.p h.v, h.c, h.p, ownUp h.b.size h.v hv⟩
theorem TfUp.below {w : World} {C P : Nat} {v : Value} {W W' : World} (h : TfUp w C P v W) (k : Below W.heap.size W W') : TfUp w C P v W' := ⟨bel_trans h.b k, h.c, h.p, h.v⟩
theorem mod_atL (x m : Int) (hm : 0 < m) : ∃ a, x.tmod m = a ∧ -m < a ∧ a < m ∧ ∃ j : Nat, (a + m).tmod m = (j : Int) ∧ (j : Int) < m := mod_at x m hm
set_option maxHeartbeats 16000000 in
set_option maxRecDepth 100000 in
theorem tfrcLimited_walk (size r : Int) (x y p : Nat) (s1 : -9223372036854775808 ≤ size) (s2 : size ≤ 9223372036854775807) (r1 : -9223372036854775808 ≤ r) (r2 : r ≤ 9223372036854775807) (hx : x < 18446744073709551616) (hy : y < 18446744073709551616) (hp : p < 18446744073709551616) (w : World) (hT : TabW w) :
    Calls Tryz.prog 15 #[.int .i64 size, .int .i64 r, .int .u64 x, .int .u64 y, .int .u64 p] w fun e w' => e = .returned (.bool true) ∧ Below w.heap.size w w' := by
  have HBG : Hid (∀ W, Below w.heap.size w W → Calls Tryz.prog 18 #[] W fun e w' => e = .returned (.bool true) ∧ Below W.heap.size W w') := Lib.hid (fun W hb => begun8_any W (hT.below hb))
  clear hT
  obtain ⟨a, ha, a1, a2, J, hJ, hJ3⟩ := mod_atL size 1400 (by decide)
  obtain ⟨S, hS⟩ : ∃ S : Nat, 1 + (J : Int) = (S : Int) := ⟨1 + J, by omega⟩
  have hS1 : 1 ≤ S := by omega
  have hS2 : S ≤ 1400 := by omega
  obtain ⟨m1, hm1⟩ : ∃ m, min r 1048576 = m := ⟨_, rfl⟩
  obtain ⟨m2, hm2⟩ : ∃ m, max 0 m1 = m := ⟨_, rfl⟩
  obtain ⟨u1, u2, u3, u4, u5⟩ := mni r 1048576 m1 hm1
  obtain ⟨v1, v2, v3, v4, v5⟩ := mxi 0 m1 m2 hm2
  obtain ⟨R, hR⟩ : ∃ R : Nat, 1000 + m2 = (R : Int) := ⟨(1000 + m2).toNat, by omega⟩
  have hR1 : 1000 ≤ R := by omega
  have hR2 : R ≤ 1049576 := by omega
  obtain ⟨X, hX⟩ : ∃ X, 1 + x % 1099511627776 = X := ⟨_, rfl⟩
  obtain ⟨Y, hY⟩ : ∃ Y, y % 1099511627776 = Y := ⟨_, rfl⟩
  obtain ⟨Pp, hP⟩ : ∃ P, 1 + p % 2147483648 = P := ⟨_, rfl⟩
  have hX1 : (1 : Int) + ((x : Int) % 1099511627776) = (X : Int) := by omega
  have hX2 : (x : Int).tmod 1099511627776 = (x : Int) % 1099511627776 := Int.tmod_eq_emod_of_nonneg (by omega)
  have hY1 : (y : Int) % 1099511627776 = (Y : Int) := by omega
  have hY2 : (y : Int).tmod 1099511627776 = (Y : Int) := by rw [Int.tmod_eq_emod_of_nonneg (by omega)]; exact hY1
  have hP1 : (1 : Int) + ((p : Int) % 2147483648) = (Pp : Int) := by omega
  have hP2 : (p : Int).tmod 2147483648 = (p : Int) % 2147483648 := Int.tmod_eq_emod_of_nonneg (by omega)
  have bX : 1 ≤ X ∧ X ≤ 1099511627776 := by omega
  have bY : Y ≤ 1099511627776 := by omega
  have bP : 1 ≤ Pp ∧ Pp ≤ 2147483648 := by omega
  obtain ⟨bX1, bX2⟩ := bX
  obtain ⟨bP1, bP2⟩ := bP
  have e1 : IntKind.u64.wrap ((x : Int) % 1099511627776) = (x : Int) % 1099511627776 := IntWalk.u64_in _ (by omega)
  have e2 : IntKind.u64.wrap (Y : Int) = (Y : Int) := IntWalk.u64_in _ (by omega)
  have e3 : IntKind.u64.wrap ((p : Int) % 2147483648) = (p : Int) % 2147483648 := IntWalk.u64_in _ (by omega)
  have e4 : IntKind.u64.wrap (X : Int) = (X : Int) := IntWalk.u64_in _ (by omega)
  have e5 : IntKind.u64.wrap (Pp : Int) = (Pp : Int) := IntWalk.u64_in _ (by omega)
  have HNW := Lib.hid (fun W => tfNew_any S hS1 hS2 W)
  have HH1 := Lib.hid (fun (C P : Nat) (v : Value) W (h : TfAt ⟨S, 64 * S, 0, 0, 0, false, 0, false⟩ [(0, 18446744073709551615)] C P v W) => (show Calls Tryz.prog 38 #[.pointer (some ⟨C, 0, none⟩), .int .i64 0, .int .i64 R, .int .u64 1, .int .u64 0, .bool false] W _ from tfJ_first S R hS1 hS2 (by omega) (by omega) 1 (by omega) C P v W h))
  obtain ⟨t0, ht0⟩ : ∃ t0 : TfS, (⟨S, 64 * S, 0, 0, 0, false, 0, false⟩ : TfS) = t0 := ⟨_, rfl⟩
  rw [ht0] at HNW HH1
  clear ht0
  obtain ⟨F1, hF1⟩ : ∃ F, max (M.tfInit S R) S = F := ⟨_, rfl⟩
  rw [hF1] at HH1
  -- the second one
  obtain ⟨N2, hN2⟩ : ∃ N : Int, 3 * (R : Int) + 1 = N := ⟨_, rfl⟩
  obtain ⟨T1, hT1⟩ : ∃ T, max X 1 = T := ⟨_, rfl⟩
  have hmx1 : M.maxNT [(0, 18446744073709551615), (0, 1)] X = T1 := by unfold M.maxNT; simp; exact hT1
  have HH2 := Lib.hid (fun (s : TfS) (hs : TfP S R 0 0 F1 s) (C P : Nat) (v : Value) W (h : TfAt s [(0, 18446744073709551615), (0, 1)] C P v W) => tfJ_dbl S R 0 F1 (by omega) s hs N2 (by omega) (by omega) X (by omega) X (by omega) [(0, 18446744073709551615), (0, 1)] (by simp) (by simp) (by simp) C P v W h)
  rw [hmx1] at HH2
  obtain ⟨F2, hF2⟩ : ∃ F, max (max (min (M.mulT 2 F1) (M.mulT 2 T1)) (M.tfInit S R)) S = F := ⟨_, rfl⟩
  rw [hF2] at HH2
  have HTP1 := Lib.hid (fun (s : TfS) (hs : TfP S R 0 N2 F2 s) (C P : Nat) (v : Value) W (h : TfAt s [(N2, T1)] C P v W) => tfTop_any s hs.ok [(N2, T1)] (by simp) (by simp) C P v W h)
  rw [maxPr_one] at HTP1
  -- the third one
  obtain ⟨N3, hN3⟩ : ∃ N : Int, 6 * (R : Int) + 2 = N := ⟨_, rfl⟩
  obtain ⟨h1, hh1⟩ : ∃ h, T1 / 2 = h := ⟨_, rfl⟩
  obtain ⟨y1, hy1⟩ : ∃ h, Y * 17 / 20 = h := ⟨_, rfl⟩
  obtain ⟨LM, hLM⟩ : ∃ h, max h1 y1 = h := ⟨_, rfl⟩
  have hT1b : T1 ≤ 1099511627776 := by omega
  have hmx2 : M.maxNT ([(N2, T1)].map M.halfPr) y1 = LM := by
    have e : M.halfPr (N2, T1) = (N2, h1) := by unfold M.halfPr; rw [if_neg (by simp only; omega), ← hh1]
    rw [List.map_cons, List.map_nil, e]
    unfold M.maxNT
    simp only [List.foldl_cons, List.foldl_nil]
    rw [if_neg (by omega), ← hLM, Nat.max_comm]
  have HH3 := Lib.hid (fun (s : TfS) (hs : TfP S R 0 N2 F2 s) (C P : Nat) (v : Value) W (h : TfAt s [(N2, T1)] C P v W) => tfJ_p S R N2 F2 (by omega) s hs N3 (by omega) Y (by omega) y1 hy1 Pp (by omega) (by omega) [(N2, T1)] (by simp) (by simp) (by simp; omega) C P v W h)
  rw [hmx2] at HH3
  obtain ⟨G, hG⟩ : ∃ G, M.eqnRate S R Pp = G := ⟨_, rfl⟩
  obtain ⟨F3, hF3⟩ : ∃ F, max (min G LM) S = F := ⟨_, rfl⟩
  rw [hG, hF3] at HH3
  have HTP2 := Lib.hid (fun (s : TfS) (hs : TfP S R Pp N2 F3 s) (C P : Nat) (v : Value) W (h : TfAt s [(N3, LM)] C P v W) => tfTop_any s hs.ok [(N3, LM)] (by simp) (by simp) C P v W h)
  rw [maxPr_one] at HTP2
  have HRA := Lib.hid (fun (s : TfS) (hs : TfP S R Pp N2 F3 s) (l : List Pr) (C P : Nat) (v : Value) W (h : TfAt s l C P v W) => (show Calls Tryz.prog 39 #[.pointer (some ⟨C, 0, none⟩)] W fun e w' => e = .returned (.int .u64 F3) ∧ W = w' from by
    have h1 := tfRate_any s hs.ok l C P v W h
    rw [hs.rate] at h1
    exact h1))
  have HLO := Lib.hid (fun (s : TfS) (hs : TfP S R Pp N2 F3 s) (l : List Pr) (C P : Nat) (v : Value) W (h : TfAt s l C P v W) => (show Calls Tryz.prog 56 #[.pointer (some ⟨C, 0, none⟩)] W fun e w' => e = .returned (.int .u64 Pp) ∧ W = w' from by
    have h1 := tfLoss_any s hs.ok l C P v W h
    rw [hs.loss] at h1
    exact h1))
  have HRF : Hid (∀ W, Calls Tryz.prog 55 #[.int .u64 S, .int .u64 R, .int .u64 Pp] W fun e w' => e = .returned (.int .u64 G) ∧ ∃ k, w' = W.drewN k) := Lib.hid (fun W => by
    have h1 := ref8Rate_any S R Pp (by omega) (by omega) (by omega) W
    rw [hG] at h1
    exact h1)
  obtain ⟨t1, t2, t3, _, _, _⟩ := mxs X 1 T1 hT1
  have t1' : (if (X : Int) < 1 then 1 else (X : Int)) = (T1 : Int) := t1
  have t2' : (if X < 1 then 1 else (X : Int)) = (T1 : Int) := t2
  have t3' : max (X : Int) 1 = (T1 : Int) := t3
  obtain ⟨l1, l2, l3, _, _, _⟩ := mxs h1 y1 LM hLM
  obtain ⟨K1, hK1⟩ : ∃ K, min LM G = K := ⟨_, rfl⟩
  have hF3' : max S K1 = F3 := by omega
  obtain ⟨k1, k2, k3, _, _, _⟩ := mns LM G K1 hK1
  obtain ⟨f1, f2, f3, _, _, _⟩ := mxs S K1 F3 hF3'
  have hSi : (S : Int) ≤ 1400 := by omega
  have hRi : (R : Int) ≤ 1049576 := by omega
  have hYi : (Y : Int) ≤ 1099511627776 := by omega
  have hTi : (T1 : Int) ≤ 1099511627776 := by omega
  have e6 : IntKind.u64.wrap (R : Int) = (R : Int) := IntWalk.u64_in _ (by omega)
  have e7 : IntKind.u64.wrap (S : Int) = (S : Int) := IntWalk.u64_in _ (by omega)
  have i1 : (T1 : Int) / 2 = (h1 : Int) := by omega
  have i2 : (T1 : Int).tdiv 2 = (h1 : Int) := by rw [Int.tdiv_eq_ediv_of_nonneg (by omega)]; exact i1
  have i3 : IntKind.u64.wrap ((Y : Int) * 17) = (Y : Int) * 17 := IntWalk.u64_in _ (by omega)
  have i4 : (Y : Int) * 17 / 20 = (y1 : Int) := by omega
  have i5 : ((Y : Int) * 17).tdiv 20 = (y1 : Int) := by rw [Int.tdiv_eq_ediv_of_nonneg (by omega)]; exact i4
  have i6 : IntKind.u64.wrap (y1 : Int) = (y1 : Int) := IntWalk.u64_in _ (by omega)
  have i7 : IntKind.i64.wrap (3 * (R : Int)) = 3 * (R : Int) := IntWalk.i64_in _ (by omega)
  have i8 : IntKind.i64.wrap (6 * (R : Int)) = 6 * (R : Int) := IntWalk.i64_in _ (by omega)
  clear hmx1 hmx2 hF1 hF2 hF3 hF3' hG hK1 hLM hT1 hh1 hy1 hm1 hm2 hX hY hP u3 u4 u5 v3 v4 v5 hT1b
  go_enter Tryz.func15, Tryz.ntmps15
  go_upto_region 4 with (go_at_call 18; refine (HBG.out _ (Below.refl _ _)).mono ?_; rintro e w0 ⟨rfl, hb0⟩)
  go_upto_region 5 with fail
  clear ha hJ e1 e2 e3 e4 e5 hX1 hX2 hY1 hY2 hP1 hP2 u1 u2 v1 v2 hS hR
  go_upto_region 7 with (first
    | (go_at_call 36; (with_reducible refine (HNW.out _).mono ?_); rintro e w1 ⟨C, P, v, rfl, htf, hc1, hp1, hv1, hb1⟩)
    | (go_at_call 38; (with_reducible refine (HH1.out _ _ _ _ htf).mono ?_); rintro e w2 ⟨rfl, s2, v2, hp2, ht2, hk2, hv2⟩))
  have hup1 : TfUp w C P v w1 := ⟨bel_trans hb0 hb1, Nat.le_trans hb0.size hc1, Nat.le_trans hb0.size hp1, fun g hg => Nat.le_trans hb0.size (hv1 g hg)⟩
  have HUP2 : Hid (TfUp w C P v2 w2) := Lib.hid (hup1.next hk2 hv2)
  clear htf hc1 hp1 hv1 hb0 hb1 hk2 hv2 hup1 HH1 HNW HBG
  go_upto_region 8 with (go_at_call 38; (with_reducible refine (HH2.out s2 hp2 _ _ _ _ ht2).mono ?_); rintro e w3 ⟨rfl, s3, v3, hp3, ht3, hk3, hv3⟩)
  have HUP3 : Hid (TfUp w C P v3 w3) := Lib.hid (HUP2.out.next hk3 hv3)
  clear hp2 ht2 hk3 hv3 HH2 HUP2
  go_upto_region 11 with (go_at_call 54; (with_reducible refine (HTP1.out s3 hp3 _ _ _ _ ht3).mono ?_); rintro e w4 ⟨rfl, hb4⟩)
  have ht4 := ht3.below hb4
  have HUP4 : Hid (TfUp w C P v3 w4) := Lib.hid (HUP3.out.below hb4)
  clear ht3 hb4 HTP1 HUP3 t1 t2 t3 t1' t2' t3'
  go_upto_region 12 with (go_at_call 38; (with_reducible refine (HH3.out s3 hp3 _ _ _ _ ht4).mono ?_); rintro e w5 ⟨rfl, s5, v5, hp5, ht5, hk5, hv5⟩)
  have HUP5 : Hid (TfUp w C P v5 w5) := Lib.hid (HUP4.out.next hk5 hv5)
  clear hp3 ht4 hk5 hv5 HH3 HUP4
  go_upto_region 13 with fail
  have HT5 := Lib.hid ht5
  have HP5 := Lib.hid hp5
  clear ht5 hp5 i1 i2 i3 i4 i5 i6 i7 i8 l1 l2 l3 hN2 hN3
  have HTPW := Lib.hid (HTP2.out s5 HP5.out _ _ _ _ HT5.out)
  have HRW : Hid (∀ W, Below w5.heap.size w5 W → Calls Tryz.prog 39 #[.pointer (some ⟨C, 0, none⟩)] W fun e w' => e = .returned (.int .u64 F3) ∧ W = w') := Lib.hid (fun W hW => HRA.out s5 HP5.out _ _ _ _ W (HT5.out.below hW))
  have HLW : Hid (∀ W n, Below w5.heap.size w5 W → Calls Tryz.prog 56 #[.pointer (some ⟨C, 0, none⟩)] (W.drewN n) fun e w' => e = .returned (.int .u64 Pp) ∧ W.drewN n = w') := Lib.hid (fun W n hW => HLO.out s5 HP5.out _ _ _ _ _ ((HT5.out.below hW).drewN n))
  clear HTP2 HRA HLO
  go_wp2_with (first
    | (go_at_call 54; (with_reducible refine HTPW.out.mono ?_); rintro e w6 ⟨rfl, hb6⟩)
    | (go_at_call 39; (with_reducible refine (HRW.out _ hb6).mono ?_); rintro e w7 ⟨rfl, rfl⟩)
    | (go_at_call 55; (with_reducible refine (HRF.out _).mono ?_); rintro e w8 ⟨rfl, n8, rfl⟩)
    | (go_at_call 56; (with_reducible refine (HLW.out _ _ hb6).mono ?_); rintro e w9 ⟨rfl, rfl⟩))
  go_ret
  exact ⟨rfl, bel_trans (bel_trans HUP5.out.b hb6) (bel_drewN _ _)⟩
end Go.Proofs.YtljlgbjbhokhlaaGreatDoor
