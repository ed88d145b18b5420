/-
  The law OptTorn, walked.
-/
import Derived.Test.YtdlpapchjjbplaaGreatDoorLawSum3
import Derived.Test.YtdlpapchjjbplaaGreatDoorRefOpt2
import Derived.Test.YtdlpapchjjbplaaGreatDoorOptMath2
import Derived.Test.YtdlpapchjjbplaaGreatDoorPktE
import Derived.Deep.DeepCutAuto
namespace Go.Proofs.YtdlpapchjjbplaaGreatDoor
open Go.ChangeShapes Go.WideShapes Go.ChangeAt Go.RowKit
set_option linter.unusedVariables false

theorem opts_one (w : World) (o : M.Opt) (ho : o.d.length ≤ maxLen) : OptsAt (w.alloc (OvBox o)) (.slice (some ⟨w.heap.size, 0, none⟩) 1 1) [o] := by
  refine ⟨.inr ⟨w.heap.size, 0, 1, rfl, by simp, fun i hi => ?_⟩, by simp, by simpa using ho⟩
  obtain rfl : i = 0 := by simp at hi; omega
  have h := OvBlk.new o w
  rw [cell_of_row _ _ _ _ _ _ h, cell_of_row _ _ _ _ _ _ h]
  exact ⟨rfl, rfl⟩
theorem OptsOwn.len {B : Nat} {p : Option Addr} {n cap : Nat} {os : List M.Opt} {W0 w : World} (h : OptsOwn B (.slice p n cap) os W0 w) : n = os.length := by
  rcases h.1.2 with ⟨e, h0⟩ | ⟨g, c, cur, e, _⟩
  · injection e with _ e _; omega
  · injection e
theorem OptsOwn.one {B : Nat} {p : Option Addr} {n cap : Nat} {o : M.Opt} {W0 w : World} (h : OptsOwn B (.slice p n cap) [o] W0 w) : n = 1 ∧ ∃ g, p = some ⟨g, 0, none⟩ ∧ w.cell? ⟨g, 1, none⟩ = some (.string (str o.d)) := by
  refine ⟨h.len, ?_⟩
  have hn := h.len
  rcases h.1.2 with ⟨e, h0⟩ | ⟨g, c, cur, e, _⟩
  · injection e with _ e _; simp at h0
  · injection e with e1 e2 e3
    subst e1
    refine ⟨g, rfl, ?_⟩
    subst hn
    rw [World.ownsRow.cellAt h.1 1 (by simp)]
    rfl
theorem optGet_len {l : List UInt8} {os : List M.Opt} (hl : l.length ≤ 1073741824) (h : M.getOpts l = some os) (k : Nat) (hk : os.length = k) (W : World) :
    Calls Tryz.prog 33 #[.string (str l)] W fun e w' => ∃ p cap, e = .returned (.tuple #[.slice p k cap, .int .i64 0]) ∧ OptsOwn W.heap.size (.slice p k cap) os W w' := by
  refine (optGet_yes hl h W).mono ?_
  rintro e w' ⟨p, n, cap, rfl, ho⟩
  obtain rfl : n = k := ho.len.trans hk
  exact ⟨p, cap, rfl, ho⟩
theorem refGet_yes {l : List UInt8} {os : List M.Opt} (hl : l.length ≤ 1073741824) (h : M.getOpts l = some os) (W : World) :
    Calls Tryz.prog 34 #[.string (str l)] W fun e w' => ∃ v, e = .returned (.tuple #[v, .int .i64 0]) ∧ OptsOwn W.heap.size v os W w' := by
  refine (refGetOpts_any l hl W).mono ?_
  rintro e w' ⟨hb, hm⟩
  rw [h] at hm
  exact hm
theorem refGet_no {l : List UInt8} (hl : l.length ≤ 1073741824) (h : M.getOpts l = none) (W : World) :
    Calls Tryz.prog 34 #[.string (str l)] W fun e w' => e = .returned (.tuple #[.slice none 0 0, .int .i64 7]) ∧ Below W.heap.size W w' := by
  refine (refGetOpts_any l hl W).mono ?_
  rintro e w' ⟨hb, hm⟩
  rw [h] at hm
  exact ⟨hm, hb⟩
theorem opts_nil (W : World) : Calls Tryz.prog 35 #[.slice none 0 0, .slice none 0 0] W fun e w' => e = .returned (.bool true) ∧ ∃ n, w' = W.drewN n :=
  opts_same W _ _ [] ⟨.inl ⟨rfl, none, 0, rfl⟩, by simp, by simp⟩ ⟨.inl ⟨rfl, none, 0, rfl⟩, by simp, by simp⟩

set_option maxHeartbeats 8000000 in
set_option maxRecDepth 100000 in
theorem optTorn_walk (s : ByteArray) (cut : Int) (N : Nat) (hs : s.size ≤ maxLen) (h1 : -9223372036854775808 ≤ cut) (h2 : cut ≤ 9223372036854775807) (hN : N < 256) (w : World) :
    Calls Tryz.prog 11 #[.string s, .int .i64 cut, .int .u8 N] w fun e w' => e = .returned (.bool true) ∧ Below w.heap.size w w' := by
  obtain ⟨d, hd, hdl⟩ : ∃ l, s.data.toList.take 60 = l ∧ l.length ≤ 60 := ⟨_, rfl, by simp; omega⟩
  have HT := Lib.hid (fun w => textN_any s 60 60 d rfl (by omega) hs hd w)
  obtain ⟨bl, hbl⟩ : ∃ b, str d = b := ⟨_, rfl⟩
  -- what is written
  have hmay : [(⟨40, d⟩ : M.Opt)].all M.optMay = true := by
    simp only [List.all_cons, List.all_nil, Bool.and_true]
    exact decide_eq_true ⟨by show (0 : Int) ≤ 40; decide, by show (40 : Int) ≤ 255; decide, .inr ⟨by show (32 : Int) ≤ 40; decide, by show d.length ≤ 253; omega⟩⟩
  obtain ⟨nb0, hnb0⟩ : ∃ b : UInt8, b = UInt8.ofNat (2 + d.length) := ⟨_, rfl⟩
  have hnb : nb0.toNat = d.length + 2 := by rw [hnb0, UInt8.toNat_ofNat', Nat.mod_eq_of_lt (by omega)]; omega
  have hput : M.putOpts [⟨40, d⟩] = 40 :: nb0 :: d ++ List.replicate (M.padLen (d.length + 2)) 0 := by
    unfold M.putOpts
    have hob : M.optsBytes [(⟨40, d⟩ : M.Opt)] = 40 :: nb0 :: d := by
      rw [hnb0]; simp [M.optsBytes, M.optBytes]
    rw [if_pos hmay, hob]
    rfl
  have HP : Hid (∀ (w : World) H, H = w.heap.size → Calls Tryz.prog 38 #[.slice (some ⟨H, 0, none⟩) 1 1] (w.alloc (.cells #[.int .i64 40, .string bl] 54)) fun e w' => e = .returned (.string (str (M.putOpts [⟨40, d⟩]))) ∧ Below w.heap.size w w') := Lib.hid (fun w H hH => by
    subst hH hbl
    exact (optPut_at (opts_one w ⟨40, d⟩ (by unfold maxLen; show d.length ≤ _; omega))).mono fun e w' h => ⟨h.1, bel_trans (bel_alloc _ _) h.2⟩)
  have hplen : (M.putOpts [⟨40, d⟩]).length ≤ 70 ∧ d.length + 2 ≤ (M.putOpts [⟨40, d⟩]).length := by
    have := M.padLen_lt (d.length + 2)
    rw [hput]; simp; omega
  obtain ⟨ps, hps⟩ : ∃ b, str (M.putOpts [⟨40, d⟩]) = b := ⟨_, rfl⟩
  have hpsz : ps.size = (M.putOpts [⟨40, d⟩]).length := by rw [← hps]; rfl
  -- the place
  obtain ⟨E, hE⟩ : ∃ E : Int, (bl.size : Int) = E := ⟨_, rfl⟩
  have hE1 : E = (d.length : Int) := by rw [← hE, ← hbl, str_size]
  obtain ⟨W2, hW2⟩ : ∃ x : Int, E + 2 = x := ⟨_, rfl⟩
  have hW3 : 2 ≤ W2 ∧ W2 ≤ 62 := by omega
  obtain ⟨a1, a2⟩ := tmod_lim cut W2 (by omega)
  obtain ⟨k1, hk1⟩ : ∃ k, cut.tmod W2 = k := ⟨_, rfl⟩
  rw [hk1] at a1 a2
  have a5 : 0 ≤ (k1 + W2).tmod W2 := Int.tmod_nonneg _ (by omega)
  obtain ⟨a3, a4⟩ := tmod_lim (k1 + W2) W2 (by omega)
  obtain ⟨q, hq⟩ : ∃ q, (k1 + W2).tmod W2 = q := ⟨_, rfl⟩
  rw [hq] at a3 a4 a5
  have hwz : (W2 == 0) = false := by rw [beq_eq_false_iff_ne]; omega
  have hE3 : 0 ≤ E ∧ E ≤ 60 := by omega
  obtain ⟨pc, hpc⟩ : ∃ b, str ((M.putOpts [⟨40, d⟩]).take q.toNat) = b := ⟨_, rfl⟩
  have hsl1 := even_part ps pc q a5 (by omega) (by rw [← hps, str_extract, List.drop_zero, hpc])
  obtain ⟨pw, hpw⟩ : ∃ b, str (40 :: nb0 :: d) = b := ⟨_, rfl⟩
  have htk : (M.putOpts [⟨40, d⟩]).take (d.length + 2) = 40 :: nb0 :: d := by
    rw [hput]; exact List.take_left' (by simp)
  have hsl2 := even_part ps pw W2 (by omega) (by omega) (by
    rw [← hps, str_extract, List.drop_zero, show W2.toNat = d.length + 2 by omega, htk, hpw])
  have HG1 : ∃ ER : Int, ((q = 0 ∧ ER = 0) ∨ (0 < q ∧ ER = 7)) ∧ Hid (∀ w : World, Calls Tryz.prog 33 #[.string pc] w fun e w' => ∃ p cap, e = .returned (.tuple #[.slice p 0 cap, .int .i64 ER]) ∧ Below w.heap.size w w') := by
    rw [← hpc]
    by_cases h0 : q = 0
    · refine ⟨0, .inl ⟨h0, rfl⟩, Lib.hid (fun w => ?_)⟩
      rw [h0]
      exact (optGet_len (l := []) (os := []) (by simp) (by rfl) 0 rfl w).mono fun e w' ⟨p, cap, h, ho⟩ => ⟨p, cap, h, ho.2.1⟩
    · refine ⟨7, .inr ⟨by omega, rfl⟩, Lib.hid (fun w => ?_)⟩
      have hto : M.getOpts ((M.putOpts [⟨40, d⟩]).take q.toNat) = none := by
        have e : (M.putOpts [⟨40, d⟩]).take q.toNat = (40 :: nb0 :: d).take q.toNat := by
          rw [← htk, List.take_take, Nat.min_eq_left (by omega)]
        rw [e]
        exact one_torn nb0 d hnb q.toNat (by omega) (by omega)
      exact (optGet_no (by rw [List.length_take]; omega) hto w).mono fun e w' h => ⟨none, 0, h.1, h.2⟩
  obtain ⟨ER, hER, HG1⟩ := HG1
  -- the row
  obtain ⟨nb, hnbN⟩ : ∃ b : UInt8, b = UInt8.ofNat N := ⟨_, rfl⟩
  have hnN : nb.toNat = N := by rw [hnbN, UInt8.toNat_ofNat', Nat.mod_eq_of_lt (by omega)]
  have HCR := Lib.hid (fun w => conv_row w (40 :: nb0 :: d))
  have HB1 := Lib.hid (fun (W : World) g (h : BRow W g (40 :: nb0 :: d)) => h.at 1 _ (by simp) rfl)
  have HB2 := Lib.hid (fun (W : World) g (h : BRow W g (40 :: nb0 :: d)) => h.set 1 nb (N : Int) (by rw [hnN]))
  have hset : (40 :: nb0 :: d).set 1 nb = 40 :: nb :: d := rfl
  rw [hset] at HB2
  have HCV : Hid (∀ (W : World) (g cap : Nat), BRow W g (40 :: nb :: d) → (convert 34 9 (.slice (some ⟨g, 0, none⟩) (d.length + 1 + 1) cap)).run Tryz.prog W = .ok (.string (str (40 :: nb :: d))) W) := Lib.hid (fun W g cap h => h.conv cap)
  obtain ⟨pn, hpn⟩ : ∃ b, str (40 :: nb :: d) = b := ⟨_, rfl⟩
  rw [hbl] at HT
  rw [hps] at HP
  rw [hpw] at HCR
  rw [hpn] at HCV
  have hll : (40 :: nb0 :: d).length = d.length + 1 + 1 := rfl
  rw [hll] at HCR
  have hW4 : W2 = ((d.length + 1 + 1 : Nat) : Int) := by omega
  obtain ⟨M0, hM0⟩ : ∃ M0, d.length + 1 + 1 = M0 := ⟨_, rfl⟩
  rw [hM0] at HCR HCV hW4
  have hM1 : 1 < M0 := by omega
  have hM2 : M0 ≤ 62 := by omega
  -- what is read at last
  have HR : Hid ((N < 2 ∨ M0 < N) → M.getOpts (40 :: nb :: d) = none) := Lib.hid (fun h => one_none nb d (by omega))
  have HRW : Hid (N = M0 → M.getOpts (40 :: nb :: d) = some [⟨40, d⟩]) := Lib.hid (fun h => one_whole nb d (by omega))
  have HNO : Hid (M.getOpts (40 :: nb :: d) = none → ∀ W : World, (Calls Tryz.prog 33 #[.string pn] W fun e w' => e = .returned (.tuple #[.slice none 0 0, .int .i64 7]) ∧ Below W.heap.size W w') ∧ (Calls Tryz.prog 34 #[.string pn] W fun e w' => e = .returned (.tuple #[.slice none 0 0, .int .i64 7]) ∧ Below W.heap.size W w')) := Lib.hid (fun h W => by
    rw [← hpn]; exact ⟨optGet_no (by simp; omega) h W, refGet_no (by simp; omega) h W⟩)
  have HYES : Hid (∀ os, M.getOpts (40 :: nb :: d) = some os → ∀ W : World, (Calls Tryz.prog 33 #[.string pn] W fun e w' => ∃ p cap, e = .returned (.tuple #[.slice p os.length cap, .int .i64 0]) ∧ OptsOwn W.heap.size (.slice p os.length cap) os W w') ∧ (Calls Tryz.prog 34 #[.string pn] W fun e w' => ∃ v, e = .returned (.tuple #[v, .int .i64 0]) ∧ OptsOwn W.heap.size v os W w')) := Lib.hid (fun os h W => by
    rw [← hpn]; exact ⟨optGet_len (by simp; omega) h _ rfl W, refGet_yes (by simp; omega) h W⟩)
  have HBD : Hid (∀ os, M.getOpts (40 :: nb :: d) = some os → os.length ≤ 100 ∧ ∀ o ∈ os, o.d.length ≤ maxLen) := Lib.hid (fun os h => by
    have hb := getOpts_bound h
    refine ⟨by have := hb.1; simp at this; omega, fun o ho => by have := hb.2 o ho; unfold maxLen; omega⟩)
  have HBL := Lib.hid hbl; have HW4 := Lib.hid hW4
  clear hW4 hd hs hbl hmay hnb0 hnb hput hps hplen hpsz hE1 hpc htk hpw hnbN hnN hset hpn hll hM0 h1 h2
  go_enter Tryz.func11, Tryz.ntmps11
  go_upto_region 9 with (first
    | (go_at_call 15; refine (begun_any _).mono ?_; rintro e w0 ⟨rfl, hb0⟩)
    | (go_at_call 16; (with_reducible refine (HT.out _).mono ?_); rintro e w1 ⟨rfl, rfl⟩)
    | (go_at_call 38; (with_reducible refine (HP.out _ _ (by first | rfl | simp)).mono ?_); rintro e w1 ⟨rfl, hb1⟩)
    | (go_at_call 33; (with_reducible refine (HG1.out _).mono ?_); rintro e w2 ⟨p1, cap1, rfl, hb2⟩))
  have HW2 : Hid (Below w.heap.size w w2) := Lib.hid (bel_trans hb0 (bel_trans hb1 hb2))
  clear hb0 hb1 hb2
  go_cut [64] (fun s64 wx => s64 = .bool false ∧ wx = w2)
  case first =>
    rcases hER with ⟨h1, h2⟩ | ⟨h1, h2⟩
    · subst h1 h2
      clear hq hsl1
      go_wp2
      go_meet
      exact ⟨rfl, rfl⟩
    · subst h2
      have hq0 : (q == 0) = false := by rw [beq_eq_false_iff_ne]; omega
      clear hq hsl1
      go_wp2
      go_meet
      exact ⟨rfl, rfl⟩
  case rest =>
    obtain ⟨rfl, rfl⟩ := hcut
    clear hq hsl1 hER a1 a2 a3 a4 a5 hk1 hwz
    obtain ⟨cap, o, hcv, hrow⟩ := HCR.out wc
    go_upto_region 12 with fail
    have hb3 : Below w.heap.size w (wc.alloc o).drew := bel_trans HW2.out (bel_trans (bel_alloc wc o) (bel_drewN _ 1))
    have hrow : BRow (wc.alloc o).drew wc.heap.size (40 :: nb0 :: d) := hrow.same rfl
    have hg3 : w.heap.size ≤ wc.heap.size := HW2.out.size
    clear hcv
    generalize wc.heap.size = g at *
    generalize (wc.alloc o).drew = W9 at *
    obtain ⟨f1, f2⟩ := HB1.out W9 g hrow
    have hb4 : Below w.heap.size w (W9.setCell ⟨g, 1, none⟩ (.int .u8 (N : Int))) := hb3.setCell (p := ⟨g, 1, none⟩) hg3 _
    have hr4 : BRow (W9.setCell ⟨g, 1, none⟩ (.int .u8 (N : Int))) g (40 :: nb :: d) := HB2.out W9 g hrow
    have HB4 := Lib.hid hb4; have HR4 := Lib.hid hr4
    clear hb3 hb4 hrow hr4 hsl2
    go_upto_region 13 with fail
    clear f1 f2
    generalize W9.setCell ⟨g, 1, none⟩ (.int .u8 (N : Int)) = WA at *
    have hcv := HCV.out WA g cap HR4.out
    by_cases hbad : N < 2 ∨ M0 < N
    · have HG := Lib.hid (HNO.out (HR.out hbad))
      have hM : (N : Int) < 2 ∨ (¬ (N : Int) < 2 ∧ W2 < (N : Int)) := by have := HW4.out; omega
      clear hbad
      rcases hM with hM | ⟨hM, hM'⟩
      all_goals
        go_wp2_with (go_at_call 33; (with_reducible refine (HG.out _).1.mono ?_); rintro e w3 ⟨rfl, hb3⟩)
        go_ret
        exact ⟨rfl, bel_trans HB4.out hb3⟩
    · have hM : ¬ (N : Int) < 2 := by omega
      have hM' : ¬ W2 < (N : Int) := by have := HW4.out; omega
      have hd1 : decide ((N : Int) < 2) = false := decide_eq_false hM
      have hd2 : decide (W2 < (N : Int)) = false := decide_eq_false hM'
      by_cases hw : N = M0
      · have hd3 : ¬ (N : Int) < W2 := by have := HW4.out; omega
        have HG : Hid (∀ W : World, Calls Tryz.prog 33 #[.string pn] W fun e w' => ∃ g cap, e = .returned (.tuple #[.slice (some ⟨g, 0, none⟩) 1 cap, .int .i64 0]) ∧ w'.cell? ⟨g, 1, none⟩ = some (.string bl) ∧ Below W.heap.size W w') := Lib.hid (fun W => by
          refine (HYES.out _ (HRW.out hw) W).1.mono ?_
          rintro e w' ⟨p, cap, rfl, ho⟩
          obtain ⟨_, g, rfl, hc⟩ := ho.one
          rw [show str (⟨40, d⟩ : M.Opt).d = bl from HBL.out] at hc
          exact ⟨g, cap, rfl, hc, ho.2.1⟩)
        clear hw hbad
        go_wp2_with (go_at_call 33; (with_reducible refine (HG.out _).mono ?_); rintro e w3 ⟨g3, cap3, rfl, hc3, hb3⟩)
        go_ret
        exact ⟨rfl, bel_trans HB4.out hb3⟩
      · have hd3 : (N : Int) < W2 := by have := HW4.out; omega
        cases hos : M.getOpts (40 :: nb :: d) with
        | none =>
          have HG := Lib.hid (HNO.out hos)
          clear hos hw hbad
          go_wp2_with (first
            | (go_at_call 33; (with_reducible refine (HG.out _).1.mono ?_); rintro e w3 ⟨rfl, hb3⟩; have hcv3 := HCV.out w3 g cap (HR4.out.same (hb3.block g HR4.out.lt)))
            | (go_at_call 34; (with_reducible refine (HG.out _).2.mono ?_); rintro e w4 ⟨rfl, hb4⟩)
            | (go_at_call 35; (with_reducible refine (opts_nil _).mono ?_); rintro e w5 ⟨rfl, n5, rfl⟩))
          go_ret
          exact ⟨rfl, bel_trans HB4.out (bel_trans hb3 (bel_trans hb4 (bel_drewN _ _)))⟩
        | some os =>
          have HG := Lib.hid (HYES.out os hos)
          obtain ⟨hb1, hb2⟩ := HBD.out os hos
          have HBO := Lib.hid hb2
          clear hos hw hbad hb2
          go_wp2_with (first
            | (go_at_call 33; (with_reducible refine (HG.out _).1.mono ?_); rintro e w3 ⟨p3, cap3, rfl, hb3⟩; have hcv3 := HCV.out w3 g cap (HR4.out.same (hb3.2.1.block g HR4.out.lt)))
            | (go_at_call 34; (with_reducible refine (HG.out _).2.mono ?_); rintro e w4 ⟨v4, rfl, hb4⟩)
            | (go_at_call 35; (refine (opts_same _ _ _ os ((hb3.kept hb4.2.1).at (by omega) HBO.out) (hb4.at (by omega) HBO.out)).mono ?_); rintro e w5 ⟨rfl, n5, rfl⟩))
          go_ret
          exact ⟨rfl, bel_trans HB4.out (bel_trans hb3.2.1 (bel_trans hb4.2.1 (bel_drewN _ _)))⟩
end Go.Proofs.YtdlpapchjjbplaaGreatDoor
