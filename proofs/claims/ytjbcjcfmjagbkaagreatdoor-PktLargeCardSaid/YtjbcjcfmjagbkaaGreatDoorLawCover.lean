/-
  The law PktCover, walked.
-/
import Derived.Test.YtjbcjcfmjagbkaaGreatDoorLawBit
import Derived.Test.YtjbcjcfmjagbkaaGreatDoorHdEq
import Derived.BigFrame
import Derived.Test.YtjbcjcfmjagbkaaGreatDoorXorM
namespace Go.Proofs.YtjbcjcfmjagbkaaGreatDoor
open Go.ChangeShapes Go.WideShapes Go.ChangeAt Go.RowKit
set_option linter.unusedVariables false
set_option linter.unusedSimpArgs false

/-- A packet's head loaded, guarded or not. -/
theorem load_mid_w {ops : Array Oper} {rest : List Oper} {o : Oper} {a : Act} {w : World} {Q : Exit → Act → World → Prop} (hgd : Region.wanted o (yielded ops a.tmps) = true) (x : Operand) (ho : o.op = .load 26 x)
    (B : Nat) (hx : a.eval x = .pointer (some ⟨B, 0, none⟩)) (h : Hd) (v : Value) (s : ByteArray) (hb : PkBlk h v s B w)
    (hh : wpList Tryz.prog ops Q rest (a.put o.dst h.val) w) : wpList Tryz.prog ops Q (o :: rest) a w :=
  BigFrame.wpList_want hgd fun _ hK => wp_load_mid 26 x ho B 0 hx h.cellsA.toList _ hb.range Tryz.underlying26 rfl infoHd (hK _ _ hh)
/-- How much is covered. -/
theorem cov_len (h : Hd) (os : List M.Opt) (d : List UInt8) (q : Int) (h0 : 0 ≤ q) (h1 : q ≤ 7) (hc : h.cs = 1 + q) (he : putErr h os d = 0) : (covLen h os d : Int) = 4 * q := by
  obtain ⟨_, _, _, hcv⟩ := putErr_zero he
  have hcl : covLen h os d = (covI (4 * offN h os + d.length : Nat) (4 * offN h os : Nat) h.cs).toNat - 4 * offN h os := rfl
  unfold covB at hcv
  have hc2 := of_decide_eq_true hcv
  rw [hcl]
  unfold covI
  have h3 := hc2.2.resolve_left (by omega)
  rw [if_neg hc2.1, if_neg (by omega), if_neg h3]
  omega

set_option maxHeartbeats 8000000 in
set_option maxRecDepth 100000 in
theorem pktCover_walk (h : Hd) (hok : h.ok) (va : Option Addr) (vc : Nat) (os : List M.Opt) (d : List UInt8) (cN tN : Int) (j : Nat) (h1 : -9223372036854775808 ≤ cN) (h2 : cN ≤ 9223372036854775807) (h3 : -9223372036854775808 ≤ tN) (h4 : tN ≤ 9223372036854775807) (hj : j < 256)
    (w : World) (hos : OptsAt w (.slice va os.length vc) os) (hd : d.length ≤ 1048576) (hol : os.length ≤ 1048576) :
    Calls Tryz.prog 13 #[Pv h (.slice va os.length vc) (str d), .int .i64 cN, .int .i64 tN, .int .u8 j] w fun e w' => e = .returned (.bool true) ∧ Below w.heap.size w w' := by
  -- the cover
  obtain ⟨m1, m2⟩ := tmod_lim cN 8 (by omega)
  obtain ⟨k1, hk1⟩ : ∃ k, cN.tmod 8 = k := ⟨_, rfl⟩
  rw [hk1] at m1 m2
  have m3 : 0 ≤ (k1 + 8).tmod 8 := Int.tmod_nonneg _ (by omega)
  obtain ⟨m4, m5⟩ := tmod_lim (k1 + 8) 8 (by omega)
  obtain ⟨q8, hq8⟩ : ∃ q, (k1 + 8).tmod 8 = q := ⟨_, rfl⟩
  rw [hq8] at m3 m4 m5
  obtain ⟨C, hC⟩ : ∃ C : Int, 1 + q8 = C := ⟨_, rfl⟩
  obtain ⟨h0, hh0⟩ : ∃ g : Hd, { h with cs := C } = g := ⟨_, rfl⟩
  have hok0 : h0.ok := by rw [← hh0]; exact ⟨hok.seq, hok.ack, hok.service, hok.i0, hok.i1, hok.i2⟩
  have hcs0 : h0.cs = 1 + q8 := by rw [← hh0, hC]
  obtain ⟨D, hDD⟩ : ∃ D, str d = D := ⟨_, rfl⟩
  have hDs : D.size = d.length := by rw [← hDD]; rfl
  have HDD := Lib.hid hDD
  rw [hDD]
  have HPUT : Hid (∀ W, Below w.heap.size w W → Calls Tryz.prog 38 #[Pv h0 (.slice va os.length vc) D] W fun e w' => e = .returned (.tuple #[.string (str (putText h0 os d)), .int .i64 (putErr h0 os d : Nat)]) ∧ Below W.heap.size W w') := Lib.hid (fun W hb => by
    have hp := pktPut_any h0 hok0 _ os d W (hos.below hb) (by unfold maxLen; omega)
    rw [hDD] at hp
    exact hp)
  have HMAY : Hid (∀ W, Below w.heap.size w W → Calls Tryz.prog 39 #[Pv h0 (.slice va os.length vc) D] W fun e w' => e = .returned (.int .i64 (putErr h0 os d : Nat)) ∧ Below W.heap.size W w') := Lib.hid (fun W hb => by
    have hp := may1_any h0 hok0 va vc os d W (hos.below hb) (by omega) (by omega)
    rw [hDD] at hp
    exact hp)
  have HBOX := Lib.hid (PkBlk.new h (.slice va os.length vc) D w)
  have hbx : PkBox h (.slice va os.length vc) D = .cells #[.int .i64 h.src, .int .i64 h.dst, .int .i64 h.off, .int .i64 h.cc, .int .i64 h.cs, .int .i64 h.sum, .int .i64 h.type, .bool h.x, .int .u64 h.seq, .int .u64 h.ack, .int .u32 h.service, .int .i64 h.code, .int .u8 h.i0, .int .u8 h.i1, .int .u8 h.i2, .slice va os.length vc, .string D] 49 := rfl
  have HB0 := Lib.hid (bel_alloc w (PkBox h (.slice va os.length vc) D))
  rw [hbx] at HBOX HB0
  obtain ⟨l, hl⟩ : ∃ l, putText h0 os d = l := ⟨_, rfl⟩
  obtain ⟨n, hn⟩ : ∃ n, putErr h0 os d = n := ⟨_, rfl⟩
  have HL : Hid (n = 0 → l = pkBytes h0 os d) := Lib.hid (fun hz => by rw [← hl]; unfold putText; rw [if_pos (by omega)])
  have HN : Hid (putErr h0 os d = n) := Lib.hid hn
  rw [hl, hn] at HPUT
  rw [hn] at HMAY
  have HH0 := Lib.hid hh0; have HOK0 := Lib.hid hok0; have HCS0 := Lib.hid hcs0
  have hn1 : n ≤ 13 := by rw [← hn]; unfold putErr; (repeat' split) <;> omega
  clear hbx hos hDD hl hn hok0 hcs0 hh0 hok
  unfold Pv
  go_enter Tryz.func13, Tryz.ntmps13
  go_upto_region 4 with (go_at_call 17; refine (begun_any _).mono ?_; rintro e w0 ⟨rfl, hb0⟩)
  have hbox := HBOX.out.below hb0
  have HB1 := Lib.hid (bel_trans HB0.out hb0)
  obtain ⟨B, hB⟩ : ∃ B, B = w.heap.size := ⟨_, rfl⟩
  rw [← hB] at hbox ⊢
  have HBB := Lib.hid hB
  clear hB hb0 HBOX HB0
  have c4 := hbox.range 4 (.int .i64 h.cs) rfl
  rw [Nat.zero_add] at c4
  have f4 := frozen_of_row w0 B 4 _ _ hbox
  have hb1 := hbox.put h0 4 (.int .i64 C) (by rw [← HH0.out]; rfl)
  have hbel1 : Below w.heap.size w (w0.setCell ⟨B, 4, none⟩ (.int .i64 C)) := HB1.out.setCell (p := ⟨B, 4, none⟩) (by rw [← HBB.out]; exact Nat.le_refl _) _
  have HBX := Lib.hid hb1; have HBL := Lib.hid hbel1
  clear hbox hb1 hbel1 HB1
  go_upto_region 5 with fail
  clear c4 f4
  generalize w0.setCell ⟨B, 4, none⟩ (.int .i64 C) = W1 at *
  go_upto_region 6 with (first
    | (refine load_pk rfl _ rfl B rfl h0 _ D HBX.out ?_)
    | (go_at_call 38; refine (HPUT.out _ HBL.out).mono ?_; rintro e W2 ⟨rfl, hb2⟩))
  have HBX2 := Lib.hid (HBX.out.below hb2); have HBL2 := Lib.hid (bel_trans HBL.out hb2)
  clear hb2 HBX HBL
  by_cases hn0 : n = 0
  · subst hn0
    clear HPUT HMAY
    have R := pk_round h0 os d HOK0.out HN.out
    have hlen := R.len
    have hsm := R.small
    have hff := fault_facts R.fault
    obtain rfl := HL.out rfl
    obtain ⟨q0, hq0⟩ : ∃ q, str (pkBytes h0 os d) = q := ⟨_, rfl⟩
    have HQ0 := Lib.hid hq0
    have HGET := Lib.hid (fun W => pktGet_any (pkBytes h0 os d) (by omega) W)
    rw [hq0] at HGET ⊢
    have HR := Lib.hid R
    cases hgo : getOs (pkBytes h0 os d) with
    | none =>
      have he := R.err
      rw [hgo, if_pos rfl] at he
      unfold GetPk at HGET
      rw [he] at HGET
      clear he hgo HR R HQ0 hq0
      go_upto_region 9 with (first
        | (go_at_call 40; refine (HGET.out _).mono ?_; rintro e W6 ⟨hb6, he6, _⟩; obtain rfl := he6 (by decide); unfold Pv0 Pv)
        | (refine store_pk rfl _ _ rfl _ Hd.zero Hd.zero _ _ ⟨#[]⟩ none 0 0 rfl rfl (pk_new_at _ _ rfl) ?_; intro W7 hp7 hg7))
      have hbz := bel_trans HBL2.out hb6
      have hb7 : Below w.heap.size w W7 := (bel_trans hbz (bel_alloc _ _)).grown hg7 (bel_trans hbz (bel_alloc _ _)).size (fun k hk => by cases hk; exact hbz.size)
      clear hb6 hg7 hp7 hbz
      go_wp2
      go_ret
      exact ⟨rfl, hb7⟩
    | some os2 =>
      have he := R.err
      rw [hgo, if_neg (by simp)] at he
      have hG : getHd (pkBytes h0 os d) = pkHead h0 os d := R.hd
      have hgd := R.gd
      have HGET2 : Hid (∀ W, Calls Tryz.prog 40 #[.string q0] W fun e w' => ∃ p cap, e = .returned (.tuple #[Pv (pkHead h0 os d) (.slice p os2.length cap) D, .int .i64 0]) ∧ OptsOwn W.heap.size (.slice p os2.length cap) os2 W w') := Lib.hid (fun W => by
        have hh := pktGet_yes (by omega) he hgo W
        rw [hG, hgd, HDD.out, hq0] at hh
        exact hh)
      clear HGET
      have hcl := cov_len h0 os d q8 m3 (by omega) HCS0.out HN.out
      obtain ⟨G, hGG⟩ : ∃ G, pkHead h0 os d = G := ⟨_, rfl⟩
      have hGo : G.off = ((offN h0 os : Nat) : Int) := by rw [← hGG]; rfl
      rw [hGG] at HGET2
      have HGG := Lib.hid hGG; have HGo := Lib.hid hGo
      have hC1 : 1 ≤ C ∧ C ≤ 8 := by omega
      have HGO := Lib.hid hgo; have HE := Lib.hid he
      have hgob : 0 ≤ G.off ∧ G.off ≤ 255 := by omega
      have HDS := Lib.hid hDs
      clear hGo hDs
      go_upto_region 9 with (first
        | (go_at_call 40; refine (HGET2.out _).mono ?_; rintro e W6 ⟨pp, cap, rfl, ho6⟩)
        | (refine store_pk rfl _ _ rfl _ Hd.zero G _ _ D pp os2.length cap rfl rfl (pk_new_at _ _ rfl) ?_; intro W7 hp7 hg7))
      have hb6 := bel_trans HBL2.out ho6.2.1
      have hb7 : Below w.heap.size w W7 := (bel_trans hb6 (bel_alloc _ _)).grown hg7 (bel_trans hb6 (bel_alloc _ _)).size (fun k hk => by cases hk; exact hb6.size)
      have hx6 := HBX2.out.below ho6.2.1
      have hx7 := (hx6.below (bel_alloc W6 _)).other hg7 (by have := hx6.lt; simp; omega)
      have hw6 : w.heap.size ≤ W6.heap.size := hb6.size
      obtain ⟨K, hK⟩ : ∃ K, K = W6.heap.size := ⟨_, rfl⟩
      rw [← hK] at hp7 ⊢
      have HB7 := Lib.hid hb7; have HX7 := Lib.hid hx7; have HP7 := Lib.hid hp7
      have k2 := hp7.range 2 (.int .i64 G.off) rfl
      have b4 := hx7.range 4 (.int .i64 C) (by rw [← HH0.out]; rfl)
      rw [Nat.zero_add] at k2 b4
      have k16 := hp7.cells.2
      have b16 := hx7.cells.2
      clear hb6 hb7 hg7 hp7 hx6 hx7 hK ho6 HBX2 HBL2 HGET2
      obtain ⟨Mm, hMm⟩ : ∃ Mm : Int, 4 * G.off + 4 * (C - 1) = Mm := ⟨_, rfl⟩
      go_upto_region 12 with fail
      clear k2 b4
      by_cases hjd : j = 0 ∨ d.length = 0
      · have hDs := HDS.out
        have hj1 : ((j : Int) == 0) = true ∨ ((j : Int) == 0) = false ∧ (((D.size : Nat) : Int) == 0) = true := by
          simp only [beq_iff_eq, beq_eq_false_iff_ne]; omega
        clear hjd hDs
        rcases hj1 with e1 | ⟨e1, e2⟩
        all_goals
          go_wp2
          go_ret
          exact ⟨by simp, HB7.out⟩
      · have e1 : ((j : Int) == 0) = false := by rw [beq_eq_false_iff_ne]; omega
        have hDs := HDS.out
        have hGo := HGo.out
        have e2 : (((D.size : Nat) : Int) == 0) = false := by rw [beq_eq_false_iff_ne]; omega
        -- the place
        obtain ⟨nn, hnn⟩ : ∃ z : Int, (D.size : Int) = z := ⟨_, rfl⟩
        have hnnl : nn = (d.length : Int) := by rw [← hnn, hDs]
        have hnnb : 0 < nn ∧ nn ≤ 1400 := by omega
        obtain ⟨n1, n2⟩ := tmod_lim tN nn (by omega)
        obtain ⟨x1, hx1⟩ : ∃ k, tN.tmod nn = k := ⟨_, rfl⟩
        rw [hx1] at n1 n2
        have n5 : 0 ≤ (x1 + nn).tmod nn := Int.tmod_nonneg _ (by omega)
        obtain ⟨n3, n4⟩ := tmod_lim (x1 + nn) nn (by omega)
        obtain ⟨r, hr⟩ : ∃ r : Nat, (x1 + nn).tmod nn = (r : Int) := ⟨((x1 + nn).tmod nn).toNat, by omega⟩
        rw [hr] at n3 n4 n5
        have hrd : r < d.length := by omega
        obtain ⟨p, hp⟩ : ∃ p : Nat, 4 * offN h0 os + r = p := ⟨_, rfl⟩
        have hat : 4 * G.off + (r : Int) = (p : Int) := by omega
        have hpl : p < (pkBytes h0 os d).length := by omega
        -- the byte
        obtain ⟨fx, fl, fne⟩ := xor_u8 ((pkBytes h0 os d).getD p 0).toNat j ((pkBytes h0 os d).getD p 0).toNat_lt hj
        obtain ⟨b, hb⟩ : ∃ b : UInt8, b.toNat = ((pkBytes h0 os d).getD p 0).toNat ^^^ j := ⟨UInt8.ofNat (((pkBytes h0 os d).getD p 0).toNat ^^^ j), by rw [UInt8.toNat_ofNat']; exact Nat.mod_eq_of_lt fl⟩
        have hgd2 : (pkBytes h0 os d).getD p 0 = d.getD r 0 := by
          have hA : ((pkHead h0 os d).bytes ++ M.putOpts os).length = 4 * offN h0 os := by
            have := hlen; unfold pkBytes at this; rw [List.length_append] at this; omega
          unfold pkBytes
          rw [List.getD_eq_getElem?_getD, List.getElem?_append_right (by omega), hA, show p - 4 * offN h0 os = r by omega, ← List.getD_eq_getElem?_getD]
        have hbne : b.toNat ≠ (d.getD r 0).toNat := by rw [hb, hgd2]; rw [hgd2] at fne; exact fne (by omega)
        obtain ⟨l2, hl2, F1, F2, F3, F4, F5⟩ := cover_far h0 os d HOK0.out HN.out r b hrd hbne
        rw [hp] at hl2
        rw [← hb] at fx
        have hbyte : (pkBytes h0 os d)[p] = (pkBytes h0 os d).getD p 0 := by rw [List.getD_eq_getElem?_getD, List.getElem?_eq_getElem hpl]; rfl
        have hlen2 : l2.length = (pkBytes h0 os d).length := by rw [← hl2]; simp
        have HCR := Lib.hid (fun w => conv_row w (pkBytes h0 os d))
        have HBRC := Lib.hid (fun (W : World) (g : Nat) (h : BRow W g (pkBytes h0 os d)) => (show W.cell? ⟨g, p, none⟩ = some (.int .u8 ((pkBytes h0 os d).getD p 0).toNat) by rw [h.cell p hpl, hbyte]; rfl))
        have HBRF := Lib.hid (fun (W : World) (g : Nat) (h : BRow W g (pkBytes h0 os d)) => h.free p hpl)
        have HBRS : Hid (∀ (W : World) (g : Nat), BRow W g (pkBytes h0 os d) → BRow (W.setCell ⟨g, p, none⟩ (.int .u8 (b.toNat : Int))) g l2) := Lib.hid (fun (W : World) (g : Nat) (h : BRow W g (pkBytes h0 os d)) => by have := h.set p b (b.toNat : Int) rfl; rwa [hl2] at this)
        have HCV : Hid (∀ (W : World) (g cap : Nat), BRow W g l2 → (convert 36 9 (.slice (some ⟨g, 0, none⟩) (pkBytes h0 os d).length cap)).run Tryz.prog W = .ok (.string (str l2)) W) := Lib.hid (fun W g cap h => by have e := h.conv cap; rwa [hlen2] at e)
        have HG2 := Lib.hid (fun W => pktGet_any l2 (by rw [hlen2]; omega) W)
        unfold GetPk at HG2
        rw [hq0] at HCR
        have hqs : (q0.size : Int) = ((pkBytes h0 os d).length : Int) := by rw [← hq0]; rfl
        obtain ⟨D2, hD2⟩ : ∃ D2, str (d.set r b) = D2 := ⟨_, rfl⟩
        have HNE : Hid (¬ D2.toList = D.toList) := Lib.hid (fun hh => by
          rw [← hD2, ← HDD.out, str_toList, str_toList] at hh
          have h2 : d.set r b = d := hh
          have h3 := congrArg (fun z : List UInt8 => (z.getD r 0).toNat) h2
          simp only [M.getD_set _ _ _ _ hrd, if_true] at h3
          exact hbne h3)
        have HGY : Hid (¬ r < covLen h0 os d → ∀ W, Calls Tryz.prog 40 #[.string (str l2)] W fun e w' => ∃ p cap, e = .returned (.tuple #[Pv G (.slice p os2.length cap) D2, .int .i64 0]) ∧ OptsOwn W.heap.size (.slice p os2.length cap) os2 W w') := Lib.hid (fun hh W => by
          have hy := pktGet_yes (by rw [hlen2]; omega) (by rw [F5 hh]; exact HE.out) (F2.trans HGO.out) W
          rw [F1, F3, HGG.out, hD2] at hy
          exact hy)
        have HGN : Hid (r < covLen h0 os d → ∀ W, Calls Tryz.prog 40 #[.string (str l2)] W fun e w' => e = .returned (.tuple #[Pv0, .int .i64 6]) ∧ Below W.heap.size W w') := Lib.hid (fun hh W => (HG2.out W).mono fun e w' hz => by
          have e6 := F4 hh
          rw [e6] at hz
          exact ⟨hz.2.1 (by decide), hz.1⟩)
        obtain ⟨bm, hbm⟩ : ∃ z, str l2 = z := ⟨_, rfl⟩
        rw [hbm] at HCV HGY HGN
        have HX := Lib.hid fx
        have hdl : decide ((p : Int) < Mm) = decide (r < covLen h0 os d) := by rw [decide_eq_decide]; omega
        have hlb : (pkBytes h0 os d).length ≤ 2500 := by omega
        generalize covLen h0 os d = cl at *
        generalize ((pkBytes h0 os d).getD p 0).toNat = c at *
        clear HG2 fx fl fne hb hgd2 hbne hl2 F1 F2 F3 F4 F5 hbyte hlen2 hbm hD2 hnnl hC
        have hdz : (nn == 0) = false := by rw [← hnn]; exact e2
        clear hrd hcl hgd hG HL HDD hn1 hGo hDs R hlen hsm hff HR he hgo hq0 hp hjd
        obtain ⟨N, hN⟩ : ∃ N, (pkBytes h0 os d).length = N := ⟨_, rfl⟩
        rw [hN] at hpl hqs HCR HCV hlb
        go_upto_region 14 with fail
        clear e2
        have k2 := HP7.out.range 2 (.int .i64 G.off) rfl
        rw [Nat.zero_add] at k2
        have b16 := HX7.out.cells.2
        clear k16
        go_quiet (fail)
        have hp8 := HP7.out.below (bel_drewN W7 nq)
        have hx8 := HX7.out.below (bel_drewN W7 nq)
        have hb8 := bel_trans HB7.out (bel_drewN W7 nq)
        clear HP7 HX7 HB7 k2 b16
        generalize W7.drewN nq = W8 at *
        have HP8 := Lib.hid hp8; have HX8 := Lib.hid hx8; have HB8 := Lib.hid hb8
        clear hp8 hx8 hb8
        obtain ⟨capr, o, hcv, hrow⟩ := HCR.out W8
        go_upto_region 16 with fail
        have HB9 := Lib.hid (bel_trans HB8.out (bel_alloc W8 o))
        have HX9 := Lib.hid (HX8.out.below (bel_alloc W8 o))
        have HP9 := Lib.hid (HP8.out.below (bel_alloc W8 o))
        have hBg : B ≠ W8.heap.size := by have := HX8.out.lt; omega
        have hKg : K ≠ W8.heap.size := by have := HP8.out.lt; omega
        have hg9 : w.heap.size ≤ W8.heap.size := HB8.out.size
        have hrow : BRow (W8.alloc o) W8.heap.size (pkBytes h0 os d) := hrow
        clear hcv HB8 HX8 HP8
        generalize W8.heap.size = g at *
        generalize W8.alloc o = W9 at *
        have hlt := hrow.lt
        have c9 := HBRC.out W9 g hrow
        have f9 := HBRF.out W9 g hrow
        have HRW := Lib.hid hrow
        clear hrow
        have hz : bits .xor .u8 (c : Int) (j : Int) = (b.toNat : Int) := HX.out
        go_upto_region 17 with fail
        have hb10 : Below w.heap.size w (W9.setCell ⟨g, p, none⟩ (.int .u8 (b.toNat : Int))) := HB9.out.setCell (p := ⟨g, p, none⟩) hg9 _
        have hr10 := HBRS.out W9 g HRW.out
        have hx10 := HX9.out.other (grown_set W9 g p (.int .u8 (b.toNat : Int))) (by simp; exact hBg)
        have hp10 := HP9.out.other (grown_set W9 g p (.int .u8 (b.toNat : Int))) (by simp; exact hKg)
        clear c9 f9 hlt HRW HB9 HX9 HP9
        generalize W9.setCell ⟨g, p, none⟩ (.int .u8 (b.toNat : Int)) = WA at *
        have cv0 := HCV.out WA g capr hr10
        have cv1 := HCV.out WA.drew g capr hr10.drew
        have HBA := Lib.hid hb10.drew
        have HXA : Hid (PkBlk h0 (.slice va os.length vc) D B WA.drew) := Lib.hid hx10
        have HPA : Hid (PkBlk G (.slice pp os2.length cap) D K WA.drew) := Lib.hid hp10
        clear hb10 hr10 hx10 hp10 hz
        by_cases hcov : r < cl
        · have hGN := Lib.hid (HGN.out hcov)
          rw [decide_eq_true hcov] at hdl
          clear HGN HGY hcov
          go_upto_region 18 with (first
            | (go_at_call 40; refine (hGN.out _).mono ?_; rintro e WB ⟨rfl, hbB⟩; unfold Pv0 Pv)
            | (refine store_pk rfl _ _ rfl _ Hd.zero Hd.zero _ _ ⟨#[]⟩ none 0 0 rfl rfl (pk_new_at _ _ rfl) ?_; intro WC hpC hgC))
          have hbz := bel_trans HBA.out hbB
          have hbC : Below w.heap.size w WC := (bel_trans hbz (bel_alloc _ _)).grown hgC (bel_trans hbz (bel_alloc _ _)).size (fun k hk => by cases hk; exact hbz.size)
          clear hbB hpC hgC hbz
          go_wp2
          go_ret
          exact ⟨rfl, hbC⟩
        · have hGY := Lib.hid (HGY.out hcov)
          rw [decide_eq_false hcov] at hdl
          clear HGN HGY hcov
          go_upto_region 18 with (first
            | (go_at_call 40; refine (hGY.out _).mono ?_; rintro e WB ⟨p2, cap2, rfl, hoB⟩)
            | (refine store_pk rfl _ _ rfl _ Hd.zero G _ _ D2 p2 os2.length cap2 rfl rfl (pk_new_at _ _ rfl) ?_; intro WC hpC hgC))
          have hbz := bel_trans HBA.out hoB.2.1
          have hbC : Below w.heap.size w WC := (bel_trans hbz (bel_alloc _ _)).grown hgC (bel_trans hbz (bel_alloc _ _)).size (fun k hk => by cases hk; exact hbz.size)
          have hxB := HXA.out.below hoB.2.1
          have hpB := HPA.out.below hoB.2.1
          have hxC := (hxB.below (bel_alloc WB _)).other hgC (by have := hxB.lt; simp; omega)
          have hpC2 := (hpB.below (bel_alloc WB _)).other hgC (by have := hpB.lt; simp; omega)
          obtain ⟨L, hL⟩ : ∃ L, L = WB.heap.size := ⟨_, rfl⟩
          rw [← hL] at hpC ⊢
          have l16 := hpC.cells.2
          have b16 := hxC.cells.2
          have HPC := Lib.hid hpC; have HPC2 := Lib.hid hpC2
          clear hbz hxB hpB hgC hoB hL hpC hpC2 hxC HXA HPA HBA
          have hez : ∀ w : World, (binOp .eql 26 G.val G.val).run Tryz.prog w = .ok (.bool true) w := fun w => by
            have := eqlHd G G w
            rw [(Hd.eqB_iff G G).2 rfl] at this
            exact this
          have hgz := fun op x y w => guardHd2 op x y G G w
          have hne := HNE.out
          go_wp2_with (first
            | (refine load_mid_w rfl _ rfl K rfl _ _ _ HPC2.out ?_)
            | (refine load_mid_w rfl _ rfl L rfl _ _ _ HPC.out ?_))
          go_ret
          exact ⟨rfl, hbC⟩
  · have t1 : ((n : Int) != 0) = true := by rw [bne_iff_ne]; omega
    clear HPUT
    go_wp2_with (first
      | (refine load_pk rfl _ rfl B rfl h0 _ D HBX2.out ?_)
      | (go_at_call 39; refine (HMAY.out _ HBL2.out).mono ?_; rintro e W3 ⟨rfl, hb3⟩))
    go_ret
    exact ⟨by simp, bel_trans HBL2.out hb3⟩
end Go.Proofs.YtjbcjcfmjagbkaaGreatDoor
