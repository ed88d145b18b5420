/-
  The law PktLarge, walked.
-/
import Derived.Test.YtjbcjcfmjagbkaaGreatDoorLargeR
import Derived.Test.YtjbcjcfmjagbkaaGreatDoorLargeM
import Derived.Test.YtjbcjcfmjagbkaaGreatDoorLawSum
namespace Go.Proofs.YtjbcjcfmjagbkaaGreatDoor
open Go.ChangeShapes Go.WideShapes Go.ChangeAt Go.RowKit
set_option linter.unusedVariables false
set_option linter.unusedSimpArgs false

set_option maxRecDepth 100000 in
theorem built_lg (h : Hd) (s : ByteArray) (w : World) : (Instr.build 49 #[(0, h.val), (2, .string s)]).run Tryz.prog w = .ok (Pv h (.slice none 0 0) s) w :=
  run_build w _ _ _ (by kernel_rfl)
set_option maxRecDepth 100000 in
theorem build_lg {ops : Array Oper} {rest : List Oper} {o : Oper} {a : Act} {w : World} {Q : Exit → Act → World → Prop} (hgd : o.guard = none) (x y : Operand) (ho : o.op = .build 49 #[(0, x), (2, y)])
    (h : Hd) (s : ByteArray) (hx : a.eval x = h.val) (hy : a.eval y = .string s)
    (hh : wpList Tryz.prog ops Q rest (a.put o.dst (Pv h (.slice none 0 0) s)) w) : wpList Tryz.prog ops Q (o :: rest) a w :=
  wpList_plain hgd fun _ hK => by
    have hb := built_lg h s w
    rw [← hx, ← hy] at hb
    unfold Oper.wp execOp
    simp only [ho, List.map_toArray, List.map_cons, List.map_nil, Sem.run_bind, hb, Result.andThen_ok]
    exact hK _ _ hh

set_option maxHeartbeats 2000000 in
set_option maxRecDepth 100000 in
theorem pktLarge_walk (nN oN : Int) (h1 : -9223372036854775808 ≤ nN) (h2 : nN ≤ 9223372036854775807) (h3 : -9223372036854775808 ≤ oN) (h4 : oN ≤ 9223372036854775807) (w : World) :
    Calls Tryz.prog 14 #[.int .i64 nN, .int .i64 oN] w fun e w' => e = .returned (.bool true) ∧ Below w.heap.size w w' := by
  obtain ⟨m1, m2⟩ := tmod_lim nN 8 (by omega)
  obtain ⟨k1, hk1⟩ : ∃ k, nN.tmod 8 = k := ⟨_, rfl⟩
  rw [hk1] at m1 m2
  have m3 : 0 ≤ (k1 + 8).tmod 8 := Int.tmod_nonneg _ (by omega)
  obtain ⟨m4, m5⟩ := tmod_lim (k1 + 8) 8 (by omega)
  obtain ⟨q8, hq8⟩ : ∃ q, (k1 + 8).tmod 8 = q := ⟨_, rfl⟩
  rw [hq8] at m3 m4 m5
  obtain ⟨N, hN⟩ : ∃ N : Nat, 1396 + q8 = (N : Int) := ⟨(1396 + q8).toNat, by omega⟩
  obtain ⟨o1, o2⟩ := tmod_lim oN 5 (by omega)
  obtain ⟨k2, hk2⟩ : ∃ k, oN.tmod 5 = k := ⟨_, rfl⟩
  rw [hk2] at o1 o2
  have o3 : 0 ≤ (k2 + 5).tmod 5 := Int.tmod_nonneg _ (by omega)
  obtain ⟨o4, o5⟩ := tmod_lim (k2 + 5) 5 (by omega)
  obtain ⟨O, hO⟩ : ∃ O : Nat, (k2 + 5).tmod 5 = (O : Int) := ⟨((k2 + 5).tmod 5).toNat, by omega⟩
  rw [hO] at o3 o4 o5
  have hOb : O ≤ 4 := by omega
  have hNb : 1396 ≤ N ∧ N ≤ 1403 := by omega
  obtain ⟨d, hd⟩ : ∃ d : List UInt8, List.replicate N 0 = d := ⟨_, rfl⟩
  have hdl : d.length = N := by rw [← hd]; simp
  obtain ⟨D, hD⟩ : ∃ D, str d = D := ⟨_, rfl⟩
  have HD2 : Hid (str (List.replicate N 0) = D) := Lib.hid (by rw [hd, hD])
  have HDS : Hid (D.size = N) := Lib.hid (by rw [← hD, str_size, hdl])
  have HD := Lib.hid hD; have HDL := Lib.hid hdl
  clear hd hD hdl
  go_enter Tryz.func14, Tryz.ntmps14
  go_upto_region 5 with (go_at_call 17; refine (begun_any _).mono ?_; rintro e w0 ⟨rfl, hb0⟩)
  clear hk1 hk2
  go_upto_region 6 with (first
    | (at_make; refine wp_zeros rfl _ _ rfl _ _ _ _ N rfl rfl rfl (by omega) ?_; rintro w2 H rfl hb2 hcv; rw [HD2.out] at hcv)
    | (refine build_lg rfl _ _ rfl lgH D rfl rfl ?_)
    | (refine store_pk rfl _ _ rfl _ Hd.zero lgH _ _ D none 0 0 rfl rfl (pk_new_at _ _ rfl) ?_; intro W7 hp7 hg7))
  have hb2' := bel_trans hb0 hb2
  have hW7 : Below w2.heap.size w2 W7 := (bel_alloc w2 _).grown hg7 (by simp) (fun k hk => by cases hk; exact Nat.le_refl _)
  have HW2 := Lib.hid hb2'
  obtain ⟨B, hB⟩ : ∃ B, B = w2.heap.size := ⟨_, rfl⟩
  have ho7 : OptsOwn B (.slice none 0 0) (lgOs 0) w2 W7 := by rw [hB]; exact (OptsOwn.nil w2).kept hW7
  rw [← hB] at hp7 ⊢
  have HBB := Lib.hid hB
  have HST : Hid (∃ v, OptsOwn B v (lgOs 0) w2 W7 ∧ PkBlk lgH v D B W7) := Lib.hid ⟨_, ho7, hp7⟩
  clear hb0 hb2 hb2' hW7 hg7 hp7 ho7 hcv hB
  go_wp2
  go_loopw [7, 8] (fun s i wr => ∃ k : Nat, s = .int .i64 (24 + 255 * (k : Int)) ∧ i = .int .i64 (k : Int) ∧ k ≤ O ∧ Hid (∃ v, OptsOwn B v (lgOs k) w2 wr ∧ PkBlk lgH v D B wr)) (fun _ i _ => O - (intOf i).toNat)
  case atStart => exact ⟨0, rfl, rfl, by omega, HST⟩
  case round =>
    obtain ⟨k, rfl, rfl, hk, hst⟩ := hrel
    by_cases hkO : k < O
    · obtain ⟨v, hov, hpv⟩ := hst.out
      have HV := Lib.hid hov; have HPV := Lib.hid hpv
      clear hov hpv hst
      go_upto_region 10 with fail
      refine Rg.regionP (by kernel_rfl) [35, 36, 37, 38, 39, 40, 41, 42, 43] (LgI lgH D B v (lgOs k) lgP w2) (by kernel_rfl) (fun V => ?_) ⟨?_, ?_, ?_, ?_, ?_, ?_, ?_, ?_, ?_, trivial⟩ ?_
      · have hb := bel_drewN wr 1
        exact ⟨⟨HV.out.2.1.trans (hb.mono HV.out.2.2), HPV.out.lt⟩, (fun h => by cases h), (fun h => by cases h), (fun h => by cases h), (fun h => by cases h), (fun h => by cases h), (fun h => by cases h), (fun h => by cases h), fun _ => HV.out.kept hb, (fun h => by cases h), (fun h => by cases h), fun _ => HPV.out, ⟨fun h => h, fun h => h, fun h => h, fun h => (by cases h), fun h => h⟩⟩
      · intro L V a W hli hdeps hsl hVe hI K1 hk
        have e6 : a.eval (.tmp 6) = .pointer (some ⟨B, 0, none⟩) := (hsl 6 (by decide)).trans rfl
        exact Rg.valJ (v := .pointer (some ⟨B, 15, none⟩)) hk (ex_opts _ _ _ _ _ rfl e6) (fun V' hV hv => hI.s0 V' hV (hv rfl))
      · intro L V a W hli hdeps hsl hVe hI K1 hk
        have e0 : a.eval (.tmp 35) = .pointer (some ⟨B, 15, none⟩) := (hVe 0).symm.trans (hI.c0 (hdeps ⟨0, .data⟩ (by simp) rfl))
        have n8 : L 8 = false := by
          cases e : L 8 with
          | false => rfl
          | true => have := (hI.ord.2.2.2.1 (hI.ord.2.2.2.2 e)).2.1; rw [hli] at this; cases this
        have hc := (hI.d8 n8).cells.1
        exact Rg.valJ (v := v) hk (ex_load47 _ _ _ _ _ _ rfl e0 hc) (fun V' hV hv => hI.s1 V' hV (hv rfl))
      · intro L V a W hli hdeps hsl hVe hI K1 hk
        obtain ⟨w6, hr6, hb6, hz6⟩ := Rg.make_zeros W 253 (by omega)
        exact Rg.valJ hk (Rg.ex_make _ _ _ _ _ _ 253 253 _ _ rfl rfl rfl hr6) (fun V' hV hv => hI.s2 hli hb6 (hz6 (by omega)) V' hV (hv rfl))
      · intro L V a W hli hdeps hsl hVe hI K1 hk
        have hl2 := hdeps ⟨2, .data⟩ (by simp) rfl
        obtain ⟨H, e2, q1, q2, q3⟩ := hI.c2 hl2
        have e3 : a.eval (.tmp 37) = .slice (some ⟨H, 0, none⟩) 253 253 := (hVe 2).symm.trans e2
        exact Rg.valJ hk (Rg.ex_slice _ _ _ _ _ _ _ _ _ _ _ rfl e3 q3.conv) (fun V' hV hv => hI.s3 hl2 V' hV (hv rfl))
      · intro L V a W hli hdeps hsl hVe hI K1 hk
        have hl3 := hdeps ⟨3, .data⟩ (by simp) rfl
        have e3 : a.eval (.tmp 38) = .string (str lgP.d) := (hVe 3).symm.trans (hI.c3 hl3)
        exact Rg.valJ (v := .agg #[.int .i64 lgP.t, .string (str lgP.d)]) hk (ex_build56 _ _ _ _ _ 99 _ rfl rfl e3) (fun V' hV hv => hI.s4 hl3 V' hV (hv rfl))
      · intro L V a W hli hdeps hsl hVe hI K1 hk
        have hl4 := hdeps ⟨4, .data⟩ (by simp) rfl
        have e4 : a.eval (.tmp 39) = .agg #[.int .i64 lgP.t, .string (str lgP.d)] := (hVe 4).symm.trans (hI.c4 hl4)
        exact Rg.valJ (v := .slice (some ⟨W.heap.size, 0, none⟩) 1 1) (w' := W.alloc (OvBox lgP)) hk (ex_bslice _ _ _ _ _ rfl e4) (fun V' hV hv => hI.s5 hli hl4 V' hV (hv rfl))
      · intro L V a W hli hdeps hsl hVe hI K1 hk
        have hl1 := hdeps ⟨1, .data⟩ (by simp) rfl
        have hl5 := hdeps ⟨5, .data⟩ (by simp) rfl
        obtain ⟨v', W', hr, hst⟩ := hI.s6 hli hl1 hl5 (by unfold lgOs; rw [List.length_replicate]; omega) 47
        have e1 : a.eval (.tmp 36) = V 1 := (hVe 1).symm
        have e5 : a.eval (.tmp 40) = V 5 := (hVe 5).symm
        exact Rg.valJ (v := v') (w' := W') hk (ex_append _ _ _ _ _ _ _ _ _ rfl e1 e5 hr) (fun V' hV hv => hst V' hV (hv rfl))
      · intro L V a W hli hdeps hsl hVe hI K1 hk
        have e6 : a.eval (.tmp 6) = .pointer (some ⟨B, 0, none⟩) := (hsl 6 (by decide)).trans rfl
        exact Rg.valJ (v := .pointer (some ⟨B, 15, none⟩)) hk (ex_opts _ _ _ _ _ rfl e6) (fun V' hV hv => hI.s7 V' hV (hv rfl))
      · intro L V a W hli hdeps hsl hVe hI K1 hk
        have hl6 := hdeps ⟨6, .data⟩ (by simp) rfl
        have hl7 := hdeps ⟨7, .data⟩ (by simp) rfl
        have e7 : a.eval (.tmp 42) = .pointer (some ⟨B, 15, none⟩) := (hVe 7).symm.trans (hI.c7 hl7)
        have e6 : a.eval (.tmp 41) = V 6 := (hVe 6).symm
        have hc := (hI.d8 hli).cells.1
        have hf := frozen_of_row W B 15 _ _ (hI.d8 hli)
        obtain ⟨sp, sn, sc, es⟩ : ∃ p n c, V 6 = .slice p n c := by
          rcases (hI.c6 hl6).1.2 with ⟨h, _⟩ | ⟨g, c2, cur, h, _⟩
          · exact ⟨_, _, _, h⟩
          · exact ⟨_, _, _, h⟩
        have hs := hI.s8 hli hl6
        rw [es] at e6 hs
        exact skipJ (w' := W.setCell ⟨B, 15, none⟩ (.slice sp sn sc)) hk (ex_store47 _ _ _ _ _ _ _ _ _ _ rfl e7 e6 hc hf) (fun V' hV hv => hs V' hV)
      · intro W' f L V hL hI
        have ho := hI.c6 (hL 6 (by decide))
        have hp := hI.c8 (hL 8 (by decide))
        rw [lgOs_succ] at ho
        have HNX : Hid (∃ v, OptsOwn B v (lgOs (k + 1)) w2 W' ∧ PkBlk lgH v D B W') := Lib.hid ⟨_, ho, hp⟩
        clear ho hp hI hL
        simp only [Rg.puts, List.foldl_cons, List.foldl_nil, Act.put, List.setIfInBounds_toArray, List.set_cons_succ, List.set_cons_zero]
        go_wp2
        refine ⟨⟨k + 1, by go_num, by go_num, by omega, HNX⟩, ?_⟩
        simp [intOf]; omega
    · obtain rfl : k = O := by omega
      obtain ⟨v, hov, hpv⟩ := hst.out
      have hll : (lgOs k).length = k := by unfold lgOs; rw [List.length_replicate]
      have hat : OptsAt wr v (lgOs k) := hov.at (by omega) (fun o ho => by
        have : o = lgP := by unfold lgOs at ho; exact List.eq_of_mem_replicate ho
        rw [this]; show (List.replicate 253 (0 : UInt8)).length ≤ maxLen; rw [List.length_replicate]; unfold maxLen; omega)
      obtain ⟨va, vc, rfl⟩ := hat.shape
      have HBW : Hid (Below w.heap.size w wr) := Lib.hid (HW2.out.trans (hov.2.1.mono (by rw [HBB.out]; exact HW2.out.size)))
      have HPUT : Hid (Calls Tryz.prog 38 #[Pv lgH (.slice va (lgOs k).length vc) D] wr fun e w' => e = .returned (.tuple #[.string (str (putText lgH (lgOs k) d)), .int .i64 (putErr lgH (lgOs k) d : Nat)]) ∧ Below wr.heap.size wr w') := Lib.hid (by
        have hp := pktPut_any lgH lg_ok _ (lgOs k) d wr hat (by rw [HDL.out]; unfold maxLen; omega)
        rw [HD.out] at hp
        exact hp)
      have HERR := lg_err k hOb d (by rw [HDL.out]; omega)
      rw [HDL.out] at HERR
      obtain ⟨q, hq⟩ : ∃ q : Nat, (24 + 255 * (k : Int) + 3) / 4 = (q : Int) := ⟨((24 + 255 * (k : Int) + 3) / 4).toNat, by omega⟩
      have hqn : q = (24 + 255 * k + 3) / 4 := by omega
      rw [← hqn] at HERR
      rw [hll] at HPUT hpv
      have HPV := Lib.hid hpv
      have hqb : q ≤ 262 := by omega
      have HQN := Lib.hid hqn
      clear hqn
      clear hst hov hat hpv hq8 hO
      by_cases hc : 1400 < N ∨ 1020 < q * 4
      · rw [if_pos hc] at HERR
        have ht : str (putText lgH (lgOs k) d) = ⟨#[]⟩ := by unfold putText; rw [if_neg (by omega)]; rfl
        rw [HERR, ht] at HPUT
        clear HERR ht
        have hcase : decide ((1400 : Int) < (N : Int)) = true ∨ (decide ((1400 : Int) < (N : Int)) = false ∧ decide ((1020 : Int) < (q : Int) * 4) = true) := by
          simp only [decide_eq_true_eq, decide_eq_false_iff_not]; omega
        clear hc
        rcases hcase with e1 | ⟨e1, e2⟩
        all_goals
          go_wp2_with (first
            | (refine load_pk rfl _ rfl B rfl lgH _ D HPV.out ?_)
            | (go_at_call 38; refine HPUT.out.mono ?_; rintro e w3 ⟨rfl, hb3⟩))
          go_ret
          exact ⟨by simp, bel_trans HBW.out hb3⟩
      · rw [if_neg hc] at HERR
        obtain ⟨hg1, hg2, hg3⟩ := lg_get k hOb d (by rw [HDL.out]; omega) HERR
        have ht : putText lgH (lgOs k) d = pkBytes lgH (lgOs k) d := by unfold putText; rw [if_pos HERR]
        rw [HERR, ht] at HPUT
        have R := pk_round lgH (lgOs k) d lg_ok HERR
        have hgh := R.hd
        have hgd := R.gd
        obtain ⟨q0, hq0⟩ : ∃ q, str (pkBytes lgH (lgOs k) d) = q := ⟨_, rfl⟩
        obtain ⟨G, hG⟩ : ∃ G, pkHead lgH (lgOs k) d = G := ⟨_, rfl⟩
        rw [hG] at hgh
        have HGET : Hid (∀ W, Calls Tryz.prog 40 #[.string q0] W fun e w' => ∃ p cap, e = .returned (.tuple #[Pv G (.slice p k cap) D, .int .i64 0]) ∧ OptsOwn W.heap.size (.slice p k cap) (lgOs k) W w') := Lib.hid (fun W => by
          have hh := pktGet_yes (by rw [hg3, HDL.out, ← HQN.out]; omega) hg1 hg2 W
          rw [hgh, hgd, HD.out, hq0, hll] at hh
          exact hh)
        have hqs : (q0.size : Int) = (q : Int) * 4 + (N : Int) := by
          rw [← hq0, str_size, hg3, HDL.out, ← HQN.out]; simp
        rw [hq0] at HPUT
        have hDs := HDS.out
        clear hg1 hg2 hg3 ht R hgh hgd hG hq0 HERR
        have e1 : decide ((1400 : Int) < (N : Int)) = false := decide_eq_false (by omega)
        have e2 : decide ((1020 : Int) < (q : Int) * 4) = false := decide_eq_false (by omega)
        have hqn2 : q * 4 ≤ 1020 := by omega
        clear hc
        go_upto_region 17 with (first
          | (refine load_pk rfl _ rfl B rfl lgH _ D HPV.out ?_)
          | (go_at_call 38; refine HPUT.out.mono ?_; rintro e w3 ⟨rfl, hb3⟩)
          | (go_at_call 40; refine (HGET.out _).mono ?_; rintro e W6 ⟨pp, cap, rfl, ho6⟩)
          | (refine store_pk rfl _ _ rfl _ Hd.zero G _ _ D pp k cap rfl rfl (pk_new_at _ _ rfl) ?_; intro W9 hp9 hg9))
        have hb6 := bel_trans HBW.out (bel_trans hb3 ho6.2.1)
        have hb9 : Below w.heap.size w W9 := (bel_trans hb6 (bel_alloc _ _)).grown hg9 (bel_trans hb6 (bel_alloc _ _)).size (fun k hk => by cases hk; exact hb6.size)
        have l15 := hp9.cells.1
        have l16 := hp9.cells.2
        clear hb6 hg9 ho6 hb3 hp9 HPUT HGET
        go_wp2
        go_ret
        exact ⟨by simp, hb9⟩
end Go.Proofs.YtjbcjcfmjagbkaaGreatDoor
