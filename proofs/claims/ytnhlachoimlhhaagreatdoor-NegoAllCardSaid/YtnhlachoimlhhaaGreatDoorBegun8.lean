/-
  begun (law 8): every package of the stage begins as it should: true.
-/
import Derived.Test.YtnhlachoimlhhaaGreatDoorBgA
namespace Go.Proofs.YtnhlachoimlhhaaGreatDoor
open Go.ChangeShapes Go.WideShapes Go.ChangeAt Go.RowKit
set_option linter.unusedVariables false
set_option linter.unusedSimpArgs false

theorem SetAt.ownlt {l : List Pr} {P : Nat} {v : Value} {w : World} (h : SetAt l P v w) (g : Nat) (hg : v.ownBlock = some g) : g < w.heap.size := by
  rcases h.row.2 with ⟨rfl, _⟩ | ⟨g', cap, cur, rfl, _, hh, _⟩
  · cases hg
  · have : g' = g := by simpa [Value.ownBlock] using hg
    subst this
    exact (Array.getElem?_eq_some_iff.1 hh).1
theorem C2At.kept {b cap : Nat} {l : List Cel} {S : List Nat} {w w' : World} (h : C2At w (.slice (some ⟨b, 0, none⟩) l.length cap) l) (k : Kept S w w') (hb : b ∉ S) (hlt : b < w.heap.size) : C2At w' (.slice (some ⟨b, 0, none⟩) l.length cap) l := by
  obtain ⟨p, cap', e, h1, h2, h3⟩ := h.at_
  injection e with e1 e2 e3
  subst e1 e3
  refine ⟨⟨_, cap, rfl, h1, h2, fun i hi => ?_⟩, h.len, h.small⟩
  obtain ⟨b', o, e, hb', x, y⟩ := h3 i hi
  injection e with e
  injection e with e1 e2
  subst e1 e2
  exact ⟨b, 0, rfl, Nat.lt_of_lt_of_le hlt k.size, (k.cell (p := ⟨b, 0 + i * 2, none⟩) hlt hb).trans x, (k.cell (p := ⟨b, 0 + i * 2 + 1, none⟩) hlt hb).trans y⟩
theorem bgCells (C g cap : Nat) (w : World) (h : GotAt 7 [1, 3, 0] C g cap w) :
    Calls Tryz.prog 133 #[.pointer (some ⟨C, 0, none⟩)] w fun e w' => ∃ b c, e = .returned (.slice (some ⟨b, 0, none⟩) 3 c) ∧ C2At w' (.slice (some ⟨b, 0, none⟩) 3 c) [(1, 1), (3, 1), (0, 1)] ∧ w.heap.size ≤ b ∧ b < w'.heap.size ∧ Below w.heap.size w w' := by
  have hv : I64At w (.slice (some ⟨g, 0, none⟩) 3 cap) [1, 3, 0] := ⟨⟨_, cap, rfl, h.cap1, h.cap2, fun i hi => ⟨g, 0, rfl, h.lt, by
    rw [Nat.zero_add]
    refine (h.row i _ (List.getElem?_eq_getElem hi)).trans ?_
    rw [List.getD_eq_getElem?_getD, List.getElem?_eq_getElem hi]
    rfl⟩⟩, by decide, fun i => by
    rcases i with _ | _ | _ | i
    · decide
    · decide
    · decide
    · exact (by decide : -9223372036854775808 ≤ (0 : Int) ∧ (0 : Int) ≤ 9223372036854775807)⟩
  have HV := Lib.hid (vecOf_any _ _ w hv)
  have a1 : w.cell? ⟨C, 1, none⟩ = some (.slice (some ⟨g, 0, none⟩) 3 cap) := h.blk.cell 1
  clear h
  go_enter Tryz.func133, Tryz.ntmps133
  go_wp2_with (go_at_call 164; (with_reducible refine HV.out.mono ?_); rintro e w1 ⟨v, rfl, h1⟩)
  go_ret
  obtain ⟨b, c, hvb, hb1, hb2⟩ : ∃ b c, v = .slice (some ⟨b, 0, none⟩) 3 c ∧ w.heap.size ≤ b ∧ b < w1.heap.size := h1.1.form (by decide)
  subst hvb
  exact ⟨b, c, rfl, CelOwn.at (l := [(1, 1), (3, 1), (0, 1)]) h1 (by decide) (fun i => by
    rcases i with _ | _ | _ | i
    · decide
    · decide
    · decide
    · exact (by decide : -9223372036854775808 ≤ (0 : Int) ∧ (0 : Int) ≤ 9223372036854775807)), hb1, hb2, h1.2.1⟩
theorem bgRttNew (w : World) : Calls Tryz.prog 112 #[] w fun e w' => ∃ C, e = .returned (.pointer (some ⟨C, 0, none⟩)) ∧ RttBlk RttS.zero C w' ∧ w.heap.size ≤ C ∧ Below w.heap.size w w' := by
  refine (rttNew_any w).mono ?_
  rintro e w' ⟨rfl, rfl⟩
  exact ⟨w.heap.size, rfl, BlkIs.new _ _ _, Nat.le_refl _, bel_alloc _ _⟩
theorem bgHearS (C g c : Nat) (v : Value) (w : World) (h : RecsAt (hrL 0) C g c w) (hv : C2At w v [(1, 1), (3, 1), (0, 1)]) :
    Calls Tryz.prog 135 #[.pointer (some ⟨C, 0, none⟩), .int .u64 7, v, .int .i64 120] w fun e w' => ∃ q cG, e = .returned (.agg #[.slice (some ⟨q, 0, none⟩) 2 cG, .slice none 0 0, .slice none 0 0, .int .i64 1, .int .i64 100]) ∧ RecsAt (hrL 3) C g c w' ∧ Kept [g] w w' := sentHear_three C g c v w h hv
/-- What lies there besides got and sent, as it was made. -/
structure BgI (z lo hi Rc Wc Wd Pc Tc Tp Fc : Nat) (v1 v2 : Value) (W : World) : Prop where
  rtt : RttBlk RttS.zero Rc W
  win : WinAt WinS.init RttS.zero Wc Wd W
  set : SetAt [(0, 18446744073709551615)] Pc v1 W
  tf : TfAt bgTf0 [(0, 18446744073709551615)] Tc Tp v2 W
  fd : FdAt (FdS.fresh 1000) (.slice none 0 0) Fc W
  tab : TabW W
  wt : 3 < z ∧ z ≤ lo
  i1 : lo ≤ Rc ∧ Rc < Wc ∧ Rc < Wd ∧ Wc < Pc ∧ Wd < Pc ∧ Pc < Tc ∧ Pc < Tp ∧ Tc < Fc ∧ Tp < Fc ∧ Fc < hi
  i2 : ∀ g, v1.ownBlock = some g → Wc < g ∧ Wd < g ∧ g < Tc ∧ g < Tp
  i3 : ∀ g, v2.ownBlock = some g → Pc < g ∧ g < Fc ∧ (∀ q, v1.ownBlock = some q → q < g)
theorem BgI.kept {z lo hi Rc Wc Wd Pc Tc Tp Fc : Nat} {v1 v2 : Value} {S : List Nat} {W W' : World} (h : BgI z lo hi Rc Wc Wd Pc Tc Tp Fc v1 v2 W) (k : Kept S W W') (hS : ∀ x ∈ S, z ≤ x ∧ (x < lo ∨ hi ≤ x)) : BgI z lo hi Rc Wc Wd Pc Tc Tp Fc v1 v2 W' := by
  have i0 := h.wt
  have i1 := h.i1
  have n : ∀ y, lo ≤ y → y < hi → y ∉ S := fun y h1 h2 hm => by have := hS y hm; omega
  refine ⟨BlkIs.kept h.rtt k (n _ (by omega) (by omega)), h.win.kept k (n _ (by omega) (by omega)) (n _ (by omega) (by omega)), h.set.kept k (n _ (by omega) (by omega)) (fun g hg => by have := h.i2 g hg; exact n _ (by omega) (by omega)), h.tf.kept k (n _ (by omega) (by omega)) (n _ (by omega) (by omega)) (fun g hg => by have := h.i3 g hg; exact n _ (by omega) (by omega)), h.fd.kept k (n _ (by omega) (by omega)), h.tab.kept k (fun hm => by have := hS _ hm; omega), h.wt, h.i1, h.i2, h.i3⟩
theorem BgI.below {z lo hi Rc Wc Wd Pc Tc Tp Fc : Nat} {v1 v2 : Value} {W W' : World} (h : BgI z lo hi Rc Wc Wd Pc Tc Tp Fc v1 v2 W) (k : Below W.heap.size W W') : BgI z lo hi Rc Wc Wd Pc Tc Tp Fc v1 v2 W' := h.kept (Kept.of_below [] k) (by simp)
theorem bgLaw1 (w : World) : Calls Tryz.prog 145 #[] w fun e w' => e = .returned (.bool true) ∧ Below w.heap.size w w' := by
  have HB := Lib.hid (begun_any w)
  go_enter Tryz.func145, Tryz.ntmps145
  go_wp2_with (go_at_call 185; (with_reducible refine HB.out.mono ?_); rintro e w1 ⟨rfl, b1⟩)
  go_ret
  exact ⟨rfl, b1⟩
theorem bgIval (W : World) (hT : TabW W) : Calls Tryz.prog 148 #[.int .u64 10, .slice (some ⟨W.heap.size, 0, none⟩) 1 1] (W.alloc (.cells #[.int .u64 10] 55)) fun e w' => e = .returned (.int .u64 429496729) ∧ ∃ n, w' = (W.alloc (.cells #[.int .u64 10] 55)).drewN n := by
  have hb := BlkIs.new #[.int .u64 10] 55 W
  have h1 := rate_any 10 (.slice (some ⟨W.heap.size, 0, none⟩) 1 1) [10] (by decide) (W.alloc (.cells #[.int .u64 10] 55)) (hT.below (bel_alloc W _)) ⟨⟨_, 1, rfl, Nat.le_refl _, by decide, fun i hi => ⟨W.heap.size, 0, rfl, hb.lt, by
    obtain rfl : i = 0 := by simpa using hi
    exact hb.cell 0⟩⟩, by decide, fun i => by
    rcases i with _ | i
    · decide
    · exact (by decide : (0 : Nat) < 18446744073709551616)⟩
  rw [show M.lossRate 10 [10] = 429496729 by decide] at h1
  exact h1
theorem bgEqn (W : World) : Calls Tryz.prog 149 #[.int .u64 1000, .int .u64 100000, .int .u64 1048576] W fun e w' => e = .returned (.int .u64 50055565) ∧ ∃ k, w' = W.drewN k := by
  have h1 := eqnRate_any 1000 100000 1048576 (by decide) (by decide) (by decide) W
  rw [show M.eqnRate 1000 100000 1048576 = 50055565 by decide] at h1
  exact h1
theorem bgMax (P : Nat) (v : Value) (W : World) (h : SetAt [(0, 18446744073709551615)] P v W) : Calls Tryz.prog 150 #[.pointer (some ⟨P, 0, none⟩)] W fun e w' => e = .returned (.int .u64 18446744073709551615) ∧ Below W.heap.size W w' := by
  have h1 := rsetMax_any _ (by decide) (by decide) P v W h
  rw [show M.maxPr [(0, 18446744073709551615)] = 18446744073709551615 by decide] at h1
  exact h1
/-- What is asked once more at the end. -/
structure BgL (lo hi Sc g c vb Hc q qc : Nat) (W : World) : Prop where
  recs : RecsAt (hrL 3) Sc g c W
  cell : W.cell? ⟨vb, 0, none⟩ = some (.int .i64 1)
  heard : BlkIs #[.slice (some ⟨q, 0, none⟩) 2 qc, .slice none 0 0, .slice none 0 0, .int .i64 1, .int .i64 100] 86 Hc W
  iv : Sc < lo ∧ hi ≤ g ∧ hi ≤ vb ∧ hi ≤ Hc
theorem BgL.kept {lo hi Sc g c vb Hc q qc : Nat} {S : List Nat} {W W' : World} (h : BgL lo hi Sc g c vb Hc q qc W) (k : Kept S W W') (hS : ∀ x ∈ S, lo ≤ x ∧ x < hi) : BgL lo hi Sc g c vb Hc q qc W' := by
  have i1 := h.iv
  have hvb : vb < W.heap.size := World.block_lt_of_cell? W _ h.cell
  exact ⟨h.recs.kept k (fun hm => by have := hS Sc hm; omega) (fun hm => by have := hS g hm; omega), (k.cell (p := ⟨vb, 0, none⟩) hvb (fun hm => by have := hS vb hm; omega)).trans h.cell, h.heard.kept k (fun hm => by have := hS Hc hm; omega), h.iv⟩
theorem BgL.below {lo hi Sc g c vb Hc q qc : Nat} {W W' : World} (h : BgL lo hi Sc g c vb Hc q qc W) (k : Below W.heap.size W W') : BgL lo hi Sc g c vb Hc q qc W' := h.kept (Kept.of_below [] k) (by simp)
set_option maxRecDepth 100000 in
set_option maxHeartbeats 4000000 in
theorem begun8_any (w : World) (hT : TabW w) : Calls Tryz.prog 104 #[] w fun e w' => e = .returned (.bool true) ∧ Below w.heap.size w w' := by
  have HT := Lib.hid hT
  have HW : Hid (3 < w.heap.size) := Lib.hid (World.block_lt_of_cell? w ⟨3, 0, none⟩ (hT 0 (by decide)))
  clear hT
  go_enter Tryz.func104, Tryz.ntmps104
  go_upto_region 2 with (first
    | (go_at_call 129; refine (gotNew_any _).mono ?_; rintro e w1 ⟨Gc, rfl, g1, gs1, gb1⟩)
    | (go_at_call 130; refine (sentNew_any _).mono ?_; rintro e w2 ⟨Sc, rfl, s1, ss1, sb1⟩)
    | (go_at_call 112; refine (bgRttNew _).mono ?_; rintro e w3 ⟨Rc, rfl, r1, rs1, rb1⟩)
    | (go_at_call 75; refine (winNew_any _).mono ?_; rintro e w4 ⟨Wc, Wd, rfl, n1, ns1, ns2, nb1⟩)
    | (go_at_call 113; refine (rsetNew_any _).mono ?_; rintro e w5 ⟨Pc, v1, rfl, p1, ps1, ps2, pb1⟩)
    | (go_at_call 76; refine (tfNew_any 100 (by decide) (by decide) _).mono ?_; rintro e w6 ⟨Tc, Tp, v2, rfl, t1, ts1, ts2, ts3, tb1⟩)
    | (go_at_call 131; refine (feedNew_any 1000 (by decide) (by decide) _).mono ?_; rintro e w7 ⟨Fc, rfl, f1, fs1, fb1⟩))
  have z1 := g1.lt
  have z2 := s1.blk.lt
  have z3 := BlkIs.lt r1
  have z4 := n1.win.lt
  have z4' := BlkIs.lt n1.rtt
  have z5 := p1.set.lt
  have z6 := t1.tf.lt
  have z6' := t1.set.set.lt
  have z7 := f1.blk.lt
  have hw := HW.out
  have y1 := gb1.size
  have y2 := sb1.size
  have y3 := rb1.size
  have y4 := nb1.size
  have y5 := pb1.size
  have y6 := tb1.size
  have y7 := fb1.size
  have HI : Hid (BgI w.heap.size w2.heap.size w7.heap.size Rc Wc Wd Pc Tc Tp Fc v1 v2 w7) := Lib.hid ⟨BlkIs.below (BlkIs.below (BlkIs.below (BlkIs.below r1 nb1) pb1) tb1) fb1, ((n1.below pb1).below tb1).below fb1, (p1.below tb1).below fb1, t1.below fb1, f1, ((((((HT.out.below gb1).below sb1).below rb1).below nb1).below pb1).below tb1).below fb1, by omega, by omega, fun g hg => by
    have h1 := ps2 g hg
    have h2 := p1.ownlt g hg
    omega, fun g hg => by
    have h1 := ts3 g hg
    have h2 := t1.set.ownlt g hg
    refine ⟨by omega, by omega, fun q hq => ?_⟩
    have := p1.ownlt q hq
    omega⟩
  have HG : Hid (BlkIs (gotCells 0 (.slice none 0 0)) 199 Gc w7 ∧ SentAt [] Sc (.slice none 0 0) w7) := Lib.hid ⟨BlkIs.below (BlkIs.below (BlkIs.below (BlkIs.below (BlkIs.below (BlkIs.below g1 sb1) rb1) nb1) pb1) tb1) fb1, ((((s1.below rb1).below nb1).below pb1).below tb1).below fb1⟩
  have HN : Hid (w.heap.size ≤ Gc ∧ Gc < Sc ∧ Sc < w2.heap.size ∧ w2.heap.size ≤ w7.heap.size) := Lib.hid ⟨by omega, by omega, by omega, by omega⟩
  have HB : Hid (Below w.heap.size w w7) := Lib.hid (bel_trans gb1 (bel_trans sb1 (bel_trans rb1 (bel_trans nb1 (bel_trans pb1 (bel_trans tb1 fb1))))))
  clear g1 gs1 gb1 s1 ss1 sb1 r1 rs1 rb1 n1 ns1 ns2 nb1 p1 ps1 ps2 pb1 t1 ts1 ts2 ts3 tb1 f1 fs1 fb1 z1 z2 z3 z4 z4' z5 z6 z6' z7 y1 y2 y3 y4 y5 y6 y7 hw HT
  go_upto_region 6 with (first
    | (go_at_call 132; refine (gotPut_there _ _ _ _ hg2).mono ?_; rintro e w9 ⟨rfl, rfl⟩)
    | (go_at_call 132; refine (gotPut_lead _ _ _ hg1).mono ?_; rintro e w9 ⟨gg2, gc2, rfl, hg2, kg2, sg2⟩)
    | (go_at_call 132; refine (gotPut_first _ _ HG.out.1).mono ?_; rintro e w8 ⟨gg1, rfl, hg1, kg1, sg1⟩)
    | (go_at_call 133; refine (bgCells _ _ _ _ hg2).mono ?_; rintro e w11 ⟨vb, vc, rfl, hv, hv1, hv2, cb⟩))
  have hn := HN.out
  have y8 := kg1.size
  have y9 := kg2.size
  have y11 := cb.size
  have HI2 : Hid (BgI w.heap.size w2.heap.size w7.heap.size Rc Wc Wd Pc Tc Tp Fc v1 v2 w11) := Lib.hid (((HI.out.kept kg1 (by intro x hx; simp at hx; omega)).kept kg2 (by intro x hx; simp at hx; omega)).below cb)
  have HS2 : Hid (SentAt [] Sc (.slice none 0 0) w11) := Lib.hid (((HG.out.2.kept kg1 (by simp; omega) (fun g hg => by cases hg)).kept kg2 (by simp; omega) (fun g hg => by cases hg)).below cb)
  have HV2 : Hid (C2At w11 (.slice (some ⟨vb, 0, none⟩) 3 vc) [(1, 1), (3, 1), (0, 1)] ∧ w7.heap.size ≤ vb ∧ vb < w11.heap.size ∧ w7.heap.size ≤ w11.heap.size) := Lib.hid ⟨hv, by omega, hv2, by omega⟩
  have HB2 : Hid (Below w.heap.size w w11) := Lib.hid (((HB.out.trans (kg1.below (by omega) (by intro x hx; simp at hx; omega))).trans (kg2.below (by omega) (by intro x hx; simp at hx; omega))).trans (cb.mono (by omega)))
  clear hg1 kg1 sg1 hg2 kg2 sg2 hv hv1 hv2 cb y8 y9 y11 hn HI HG HB
  go_upto_region 7 with (first
    | (go_at_call 134; refine (bgPut3 _ _ _ _ hs2).mono ?_; rintro e w14 ⟨sg3, sc3, rfl, hs3, ks3, ss3⟩)
    | (go_at_call 134; refine (bgPut2 _ _ _ _ hs1).mono ?_; rintro e w13 ⟨sg2, sc2, rfl, hs2, ks2, ss2⟩)
    | (go_at_call 134; refine (bgPut1 _ _ HS2.out).mono ?_; rintro e w12 ⟨sg1, sc1, rfl, hs1, ks1, ss1⟩))
  have hn := HN.out
  have hv0 := HV2.out
  have y12 := ks1.size
  have y13 := ks2.size
  have y14 := ks3.size
  have e2 : w11.heap.size ≤ sg2 := by rcases ss2 with rfl | h <;> omega
  have e3 : w11.heap.size ≤ sg3 := by rcases ss3 with rfl | h <;> omega
  have HI3 : Hid (BgI w.heap.size w2.heap.size w7.heap.size Rc Wc Wd Pc Tc Tp Fc v1 v2 w14) := Lib.hid (((HI2.out.kept ks1 (by intro x hx; simp at hx; omega)).kept ks2 (by intro x hx; simp at hx; omega)).kept ks3 (by intro x hx; simp at hx; omega))
  have HV3 : Hid (C2At w14 (.slice (some ⟨vb, 0, none⟩) 3 vc) [(1, 1), (3, 1), (0, 1)] ∧ w7.heap.size ≤ vb ∧ vb < w14.heap.size ∧ w7.heap.size ≤ w14.heap.size ∧ RecsAt (hrL 0) Sc sg3 sc3 w14 ∧ w7.heap.size ≤ sg3 ∧ vb ≠ sg3) := Lib.hid ⟨C2At.kept (l := [(1, 1), (3, 1), (0, 1)]) (C2At.kept (l := [(1, 1), (3, 1), (0, 1)]) (C2At.kept (l := [(1, 1), (3, 1), (0, 1)]) hv0.1 ks1 (by simp; omega) (by omega)) ks2 (by simp; omega) (by omega)) ks3 (by simp; omega) (by omega), by omega, by omega, by omega, hs3, by omega, by omega⟩
  have HB3 : Hid (Below w.heap.size w w14) := Lib.hid (((HB2.out.trans (ks1.below (by omega) (by intro x hx; simp at hx; omega))).trans (ks2.below (by omega) (by intro x hx; simp at hx; omega))).trans (ks3.below (by omega) (by intro x hx; simp at hx; omega)))
  clear hs1 ks1 ss1 hs2 ks2 ss2 hs3 ks3 ss3 y12 y13 y14 e2 e3 hn hv0 HI2 HV2 HB2 HS2
  go_upto_region 8 with (go_at_call 135; refine (bgHearS _ _ _ _ _ HV3.out.2.2.2.2.1 HV3.out.1).mono ?_; rintro e w15 ⟨q, qc, rfl, hr3, kh⟩)
  have hn := HN.out
  have hv0 := HV3.out
  obtain ⟨_, u1, u2, u3, _, u4, u5⟩ := HV3.out
  have y15 := kh.size
  have ka := bel_alloc w15 (.cells #[.slice (some ⟨q, 0, none⟩) 2 qc, .slice none 0 0, .slice none 0 0, .int .i64 1, .int .i64 100] 86)
  have hnew := BlkIs.new #[.slice (some ⟨q, 0, none⟩) 2 qc, .slice none 0 0, .slice none 0 0, .int .i64 1, .int .i64 100] 86 w15
  have HI4 : Hid (BgI w.heap.size w2.heap.size w7.heap.size Rc Wc Wd Pc Tc Tp Fc v1 v2 (w15.alloc (.cells #[.slice (some ⟨q, 0, none⟩) 2 qc, .slice none 0 0, .slice none 0 0, .int .i64 1, .int .i64 100] 86))) := Lib.hid ((HI3.out.kept kh (by intro x hx; simp at hx; omega)).below ka)
  have HL4 : Hid (BgL w2.heap.size w7.heap.size Sc sg3 sc3 vb w15.heap.size q qc (w15.alloc (.cells #[.slice (some ⟨q, 0, none⟩) 2 qc, .slice none 0 0, .slice none 0 0, .int .i64 1, .int .i64 100] 86))) := Lib.hid ⟨hr3.below ka, by
    obtain ⟨b', o', e, _, x, _⟩ : ∃ b o, (some ⟨vb, 0, none⟩ : Option Addr) = some ⟨b, o, none⟩ ∧ b < w14.heap.size ∧ w14.cell? ⟨b, o + 0 * 2, none⟩ = some (.int .i64 1) ∧ True := by
      obtain ⟨p', cap', e, _, _, h3⟩ := hv0.1.at_
      injection e with e1 e2 e3
      subst e1
      obtain ⟨b', o, e, hb', x, y⟩ := h3 0 (by decide)
      exact ⟨b', o, e, hb', x, trivial⟩
    injection e with e
    injection e with e1 e2
    subst e1 e2
    have h1 := (kh.cell (p := ⟨vb, 0, none⟩) hv0.2.2.1 (by simp; omega)).trans x
    exact (ka.cell (p := ⟨vb, 0, none⟩) (show vb < w15.heap.size by omega)).trans h1, hnew, by omega⟩
  have HB4 : Hid (Below w.heap.size w (w15.alloc (.cells #[.slice (some ⟨q, 0, none⟩) 2 qc, .slice none 0 0, .slice none 0 0, .int .i64 1, .int .i64 100] 86))) := Lib.hid ((HB3.out.trans (kh.below (by omega) (by intro x hx; simp at hx; omega))).trans (ka.mono (by omega)))
  generalize w15.alloc (.cells #[.slice (some ⟨q, 0, none⟩) 2 qc, .slice none 0 0, .slice none 0 0, .int .i64 1, .int .i64 100] 86) = w16 at *
  obtain ⟨Hc, hHc⟩ : ∃ Hc, w15.heap.size = Hc := ⟨_, rfl⟩
  rw [hHc] at HL4 ⊢
  clear hr3 kh ka hnew y15 hn hv0 u1 u2 u3 u4 u5 HI3 HV3 HB3 hHc
  go_upto_region 11 with (first
    | (go_at_call 136; refine (bgSample _ _ HI4.out.rtt).mono ?_; rintro e w17 ⟨rfl, r2, kr⟩)
    | (go_at_call 137; refine (bgSent _ _ _ (HI4.out.win.kept kr (by have := HI4.out.i1; simp; omega) (by have := HI4.out.i1; simp; omega))).mono ?_; rintro e w18 ⟨rfl, n2, kn⟩)
    | (go_at_call 138; refine (bgMay _ _ _ n2).mono ?_; rintro e wm ⟨rfl, k1, rfl⟩)
    | (go_at_call 139; refine (bgDue _ _ _ (n2.drewN _)).mono ?_; rintro e wd ⟨rfl, k2, rfl⟩))
  have i1 := HI4.out.i1
  have i0 := HI4.out.wt
  have j2 := HI4.out.i3
  have kk : Kept [Rc, Wc] w16 (w18.drewN (k1 + k2)) := ((kr.more (by simp)).trans' (kn.more (by simp))).drewN _
  have HX : Hid (RttBlk (RttS.zero.sample 1000) Rc (w18.drewN (k1 + k2)) ∧ SetAt [(0, 18446744073709551615)] Pc v1 (w18.drewN (k1 + k2)) ∧ TfAt bgTf0 [(0, 18446744073709551615)] Tc Tp v2 (w18.drewN (k1 + k2)) ∧ FdAt (FdS.fresh 1000) (.slice none 0 0) Fc (w18.drewN (k1 + k2)) ∧ TabW (w18.drewN (k1 + k2)) ∧ BgL w2.heap.size w7.heap.size Sc sg3 sc3 vb Hc q qc (w18.drewN (k1 + k2)) ∧ Below w.heap.size w (w18.drewN (k1 + k2))) := Lib.hid
    ⟨BlkIs.drewN (BlkIs.kept r2 kn (by simp; omega)) _, HI4.out.set.kept kk (by simp; omega) (fun g hg => by have := HI4.out.i2 g hg; simp; omega), HI4.out.tf.kept kk (by simp; omega) (by simp; omega) (fun g hg => by have := j2 g hg; simp; omega), HI4.out.fd.kept kk (by simp; omega), HI4.out.tab.kept kk (by simp; omega), HL4.out.kept kk (by intro x hx; simp at hx; omega), HB4.out.trans (kk.below (by have := HB4.out.size; omega) (by intro x hx; simp at hx; omega))⟩
  have HQ : Hid (w.heap.size ≤ w2.heap.size ∧ w2.heap.size ≤ Rc ∧ Rc < Pc ∧ Pc < Tc ∧ Pc < Tp ∧ Tc < Fc ∧ Tp < Fc ∧ Fc < w7.heap.size ∧ 3 < w.heap.size ∧ (∀ g, v1.ownBlock = some g → Rc < g ∧ g < Tc ∧ g < Tp) ∧ (∀ g, v2.ownBlock = some g → Pc < g ∧ g < Fc ∧ ∀ q, v1.ownBlock = some q → q < g)) := Lib.hid ⟨i0.2, i1.1, by omega, by omega, by omega, by omega, by omega, by omega, i0.1, fun g hg => by have := HI4.out.i2 g hg; omega, j2⟩
  generalize w18.drewN (k1 + k2) = W8 at *
  clear i1 i0 j2 kk r2 kr n2 kn HI4 HL4 HB4 HN
  go_upto_region 13 with (first
    | (go_at_call 140; refine (bgStart _ _ _ _ _ HX.out.2.2.1).mono ?_; rintro e w19 ⟨rfl, t2, kt⟩)
    | (go_at_call 141; refine (bgHear _ _ _ _ t2).mono ?_; rintro e w20 ⟨rfl, tl, v3, t3, ku, hv3⟩))
  obtain ⟨x1, x2, x3, x4, x5, x6, x7⟩ := HX.out
  obtain ⟨u0, u1, u2, u3, u4, u5, u6, u7, u8, u9, u10⟩ := HQ.out
  have kk : Kept (Tc :: Tp :: own v2) W8 w20 := (kt.more (by simp)).trans' (ku.more (by simp))
  have hno : ∀ y, Tc ≠ y → Tp ≠ y → (∀ g, v2.ownBlock = some g → g ≠ y) → y ∉ Tc :: Tp :: own v2 := fun y h1 h2 h3 hm => by
    rcases List.mem_cons.1 hm with e | hm
    · exact h1 e.symm
    · rcases List.mem_cons.1 hm with e | hm
      · exact h2 e.symm
      · cases hv : v2.ownBlock with
        | none => rw [own, hv] at hm; cases hm
        | some g => rw [own, hv] at hm; simp at hm; exact h3 g hv hm.symm
  have hin : ∀ x ∈ Tc :: Tp :: own v2, w2.heap.size ≤ x ∧ x < w7.heap.size := fun x hm => by
    rcases List.mem_cons.1 hm with e | hm
    · omega
    · rcases List.mem_cons.1 hm with e | hm
      · omega
      · cases hv : v2.ownBlock with
        | none => rw [own, hv] at hm; cases hm
        | some g => rw [own, hv] at hm; simp at hm; have := u10 g hv; omega
  have hF : Fc < W8.heap.size := x4.blk.lt
  have yt := kt.size
  have HY0 : Hid (RttBlk (RttS.zero.sample 1000) Rc w20 ∧ SetAt [(0, 18446744073709551615)] Pc v1 w20 ∧ TfAt bgTf2 tl Tc Tp v3 w20 ∧ FdAt (FdS.fresh 1000) (.slice none 0 0) Fc w20 ∧ TabW w20 ∧ BgL w2.heap.size w7.heap.size Sc sg3 sc3 vb Hc q qc w20 ∧ Below w.heap.size w w20 ∧ (∀ g, v3.ownBlock = some g → g ≠ Fc)) := Lib.hid
    ⟨BlkIs.kept x1 kk (hno _ (by omega) (by omega) (fun g hg => by have := u10 g hg; omega)), x2.kept kk (hno _ (by omega) (by omega) (fun g hg => by have := u10 g hg; omega)) (fun g hg => by have := u9 g hg; exact hno _ (by omega) (by omega) (fun g2 hg2 => by have := (u10 g2 hg2).2.2 g hg; omega)), t3, x4.kept kk (hno _ (by omega) (by omega) (fun g hg => by have := u10 g hg; omega)), x5.kept kk (hno _ (by omega) (by omega) (fun g hg => by have := u10 g hg; omega)), x6.kept kk hin, x7.trans (kk.below (by have := x7.size; omega) (fun x hx => by have := hin x hx; omega)), fun g hg => by
      rcases hv3 with e | ⟨g2, e, h2⟩
      · rw [e] at hg; have := u10 g hg; omega
      · rw [e] at hg; cases hg; omega⟩
  clear x1 x2 x3 x4 x5 x6 x7 u0 u1 u2 u3 u4 u5 u6 u7 u8 u9 u10 kk hno hin hF yt t2 kt t3 ku hv3 HX
  go_upto_region 15 with (first
    | (go_at_call 142; refine (bgFeed _ _ HY0.out.2.2.2.1).mono ?_; rintro e w21 ⟨rfl, f2, kf⟩)
    | (go_at_call 143; refine (bgTell _ _ (HY0.out.2.2.2.2.1.kept kf (by have := HQ.out; simp; omega)) (by have := HQ.out; omega) f2).mono ?_; rintro e w22 ⟨rfl, kg⟩))
  obtain ⟨x1, x2, x3, _, x5, x6, x7, x8⟩ := HY0.out
  obtain ⟨u0, u1, u2, u3, u4, u5, u6, u7, u8, u9, u10⟩ := HQ.out
  have kk : Kept [Fc] w20 w22 := kf.trans' kg
  have HZ : Hid (∀ W, Below w22.heap.size w22 W → RttBlk (RttS.zero.sample 1000) Rc W ∧ SetAt [(0, 18446744073709551615)] Pc v1 W ∧ TfAt bgTf2 tl Tc Tp v3 W ∧ TabW W ∧ BgL w2.heap.size w7.heap.size Sc sg3 sc3 vb Hc q qc W ∧ Below w.heap.size w W) := Lib.hid (fun W hW =>
    ⟨BlkIs.below (BlkIs.kept x1 kk (by simp; omega)) hW, (x2.kept kk (by simp; omega) (fun g hg => by have := u9 g hg; simp; omega)).below hW, (x3.kept kk (by simp; omega) (by simp; omega) (fun g hg => by simp; exact x8 g hg)).below hW, (x5.kept kk (by simp; omega)).below hW, (x6.kept kk (by intro x hx; simp at hx; omega)).below hW, (x7.trans (kk.below (by have := x7.size; omega) (fun x hx => by simp at hx; omega))).trans (hW.mono (by have := x7.size; have := kk.size; omega))⟩)
  have HMg : Hid (∀ W, Calls Tryz.prog 144 #[.int .i64 0, .int .i64 3] W fun e w' => e = .returned (.tuple #[.int .i64 0, .bool true]) ∧ W = w') := Lib.hid (fun W => merge_any 0 3 W)
  clear x1 x2 x3 x5 x6 x7 x8 u0 u1 u2 u3 u4 u5 u6 u7 u8 u9 u10 kk f2 kf kg HY0 HQ
  go_wp2_with (first
    | (go_at_call 144; refine (HMg.out _).mono ?_; rintro e wm ⟨rfl, rfl⟩)
    | (go_at_call 145; refine (bgLaw1 _).mono ?_; rintro e w23 ⟨rfl, b23⟩; have z23 := (HZ.out w23 b23).2.2.2.2.1; have c0 := z23.cell; have d0 : w23.cell? ⟨Hc, 0, none⟩ = some (.slice (some ⟨q, 0, none⟩) 2 qc) := BlkIs.cell z23.heard 0; have d2 : w23.cell? ⟨Hc, 2, none⟩ = some (.slice none 0 0) := BlkIs.cell z23.heard 2; have d3 : w23.cell? ⟨Hc, 3, none⟩ = some (.int .i64 1) := BlkIs.cell z23.heard 3; have d4 : w23.cell? ⟨Hc, 4, none⟩ = some (.int .i64 100) := BlkIs.cell z23.heard 4)
    | (go_at_call 146; refine (sentOut_three _ _ _ _ z23.recs).mono ?_; rintro e w24 ⟨rfl, b24⟩; have b25 : Below w22.heap.size w22 w24 := bel_trans b23 b24)
    | (go_at_call 147; refine (bgRto _ _ (HZ.out _ b25).1).mono ?_; rintro e wr ⟨rfl, k3, rfl⟩; have b26 : Below w22.heap.size w22 (w24.drewN k3) := bel_trans b25 (bel_drewN _ _))
    | (go_at_call 50; refine (bgRtt _ _ _ _ _ (HZ.out _ b26).2.2.1).mono ?_; rintro e wt ⟨rfl, rfl⟩)
    | (go_at_call 34; refine (bgRate _ _ _ _ _ (HZ.out _ b26).2.2.1).mono ?_; rintro e wt ⟨rfl, rfl⟩)
    | (go_at_call 148; refine (bgIval (w24.drewN k3) (HZ.out _ b26).2.2.2.1).mono ?_; rintro e wi ⟨rfl, k4, rfl⟩)
    | (go_at_call 149; refine (bgEqn _).mono ?_; rintro e we ⟨rfl, k5, rfl⟩)
    | (go_at_call 150; have b27 : Below w22.heap.size w22 (((w24.drewN k3).alloc (.cells #[.int .u64 10] 55)).drewN (k4 + k5)) := bel_trans b26 (bel_trans (bel_alloc _ _) (bel_drewN _ _)); refine (bgMax Pc v1 _ (HZ.out _ b27).2.1).mono ?_; rintro e w30 ⟨rfl, b30⟩))
  go_ret
  exact ⟨rfl, (HZ.out _ (bel_trans b27 b30)).2.2.2.2.2⟩
end Go.Proofs.YtnhlachoimlhhaaGreatDoor
