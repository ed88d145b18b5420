/-
  The law PktBit, walked.
-/
import Derived.Test.YtjbcjcfmjagbkaaGreatDoorBitMath
import Derived.Test.YtjbcjcfmjagbkaaGreatDoorLawSum3
import Derived.Test.YtjbcjcfmjagbkaaGreatDoorRowC
import Derived.Test.YtjbcjcfmjagbkaaGreatDoorMayP
import Derived.Test.YtjbcjcfmjagbkaaGreatDoorBegunM
namespace Go.Proofs.YtjbcjcfmjagbkaaGreatDoor
open Go.ChangeShapes Go.WideShapes Go.ChangeAt Go.RowKit
set_option linter.unusedVariables false
set_option linter.unusedSimpArgs false

theorem PkBlk.put {h : Hd} {v : Value} {s : ByteArray} {B : Nat} {w : World} (a : PkBlk h v s B w) (h2 : Hd) (i : Nat) (x : Value) (e : (pkCells h v s).setIfInBounds i x = pkCells h2 v s) : PkBlk h2 v s B (w.setCell ⟨B, i, none⟩ x) := by
  have a1 : w.heap[B]? = some (.cells (pkCells h v s) 49) := a
  have a2 := heap_setCell_same w B i _ _ x a1
  rw [e] at a2
  exact a2
theorem OptsAt.keep {w w' : World} {v : Value} {os : List M.Opt} (h : OptsAt w v os) (hb : Below w.heap.size w w') : OptsAt w' v os := h.below hb

set_option maxHeartbeats 8000000 in
set_option maxRecDepth 100000 in
theorem pktBit_walk (h : Hd) (hok : h.ok) (va : Option Addr) (vc : Nat) (os : List M.Opt) (d : List UInt8) (at_ : Int) (h1 : -9223372036854775808 ≤ at_) (h2 : at_ ≤ 9223372036854775807) (w : World) (hos : OptsAt w (.slice va os.length vc) os) (hd : d.length ≤ 1048576) (hol : os.length ≤ 1048576) :
    Calls Tryz.prog 8 #[Pv h (.slice va os.length vc) (str d), .int .i64 at_] w fun e w' => e = .returned (.bool true) ∧ Below w.heap.size w w' := by
  obtain ⟨h0, hh0⟩ : ∃ g : Hd, { h with cs := 0 } = g := ⟨_, rfl⟩
  have hok0 : h0.ok := by rw [← hh0]; exact ⟨hok.seq, hok.ack, hok.service, hok.i0, hok.i1, hok.i2⟩
  have hcs0 : h0.cs = 0 := by rw [← hh0]
  obtain ⟨D, hDD⟩ : ∃ D, str d = D := ⟨_, rfl⟩
  rw [hDD]
  have HPUT : Hid (∀ W, Below w.heap.size w W → Calls Tryz.prog 38 #[Pv h0 (.slice va os.length vc) D] W fun e w' => e = .returned (.tuple #[.string (str (putText h0 os d)), .int .i64 (putErr h0 os d : Nat)]) ∧ Below W.heap.size W w') := Lib.hid (fun W hb => by
    have hp := pktPut_any h0 hok0 _ os d W (hos.below hb) (by unfold maxLen; omega)
    rw [hDD] at hp
    exact hp)
  have HMAY : Hid (∀ W, Below w.heap.size w W → Calls Tryz.prog 39 #[Pv h0 (.slice va os.length vc) D] W fun e w' => e = .returned (.int .i64 (putErr h0 os d : Nat)) ∧ Below W.heap.size W w') := Lib.hid (fun W hb => by
    have hp := may1_any h0 hok0 va vc os d W (hos.below hb) (by omega) (by omega)
    rw [hDD] at hp
    exact hp)
  have HBOX := Lib.hid (PkBlk.new h (.slice va os.length vc) D w)
  have hbx : PkBox h (.slice va os.length vc) D = .cells #[.int .i64 h.src, .int .i64 h.dst, .int .i64 h.off, .int .i64 h.cc, .int .i64 h.cs, .int .i64 h.sum, .int .i64 h.type, .bool h.x, .int .u64 h.seq, .int .u64 h.ack, .int .u32 h.service, .int .i64 h.code, .int .u8 h.i0, .int .u8 h.i1, .int .u8 h.i2, .slice va os.length vc, .string D] 49 := rfl
  have HB0 := Lib.hid (bel_alloc w (PkBox h (.slice va os.length vc) D))
  rw [hbx] at HBOX HB0
  obtain ⟨l, hl⟩ : ∃ l, putText h0 os d = l := ⟨_, rfl⟩
  obtain ⟨n, hn⟩ : ∃ n, putErr h0 os d = n := ⟨_, rfl⟩
  have HBIT : Hid (n = 0 → ∀ p k (b : UInt8), p < l.length → k < 8 → b.toNat = (l.getD p 0).toNat ^^^ 2 ^ k → ¬ (p = 5 ∧ k < 4) → getErr (l.set p b) ≠ 0) := Lib.hid (fun hz p k b => by
    have e : l = pkBytes h0 os d := by rw [← hl]; unfold putText; rw [if_pos (by omega)]
    rw [e]
    exact getErr_bit h0 os d hok0 hcs0 (by omega) p k b)
  have HLEN : Hid (n = 0 → 0 < l.length ∧ l.length ≤ 2500) := Lib.hid (fun hz => by
    have e : l = pkBytes h0 os d := by rw [← hl]; unfold putText; rw [if_pos (by omega)]
    have R := pk_round h0 os d hok0 (by omega)
    rw [e, R.len]
    have := fault_facts R.fault
    have := R.small
    have := R.len
    omega)
  rw [hl, hn] at HPUT
  rw [hn] at HMAY
  have HH0 := Lib.hid hh0
  have hn1 : n ≤ 13 := by rw [← hn]; unfold putErr; (repeat' split) <;> omega
  clear hbx hos hDD hl hn hok0 hcs0 hh0
  unfold Pv
  go_enter Tryz.func8, Tryz.ntmps8
  go_upto_region 4 with (go_at_call 17; refine (begun_any _).mono ?_; rintro e w0 ⟨rfl, hb0⟩)
  have hbox := HBOX.out.below hb0
  have HB1 := Lib.hid (bel_trans HB0.out hb0)
  obtain ⟨B, hB⟩ : ∃ B, B = w.heap.size := ⟨_, rfl⟩
  rw [← hB] at hbox ⊢
  have HBB := Lib.hid hB
  clear hB hb0 HBOX HB0
  have c4 := hbox.range 4 (.int .i64 h.cs) rfl
  rw [Nat.zero_add] at c4
  have f4 := frozen_of_row w0 B 4 _ _ hbox
  have hb1 := hbox.put h0 4 (.int .i64 0) (by rw [← HH0.out]; rfl)
  have hbel1 : Below w.heap.size w (w0.setCell ⟨B, 4, none⟩ (.int .i64 0)) := HB1.out.setCell (p := ⟨B, 4, none⟩) (by rw [← HBB.out]; exact Nat.le_refl _) _
  have HBX := Lib.hid hb1; have HBL := Lib.hid hbel1
  clear hbox hb1 hbel1 HB1
  go_upto_region 5 with fail
  clear c4 f4
  generalize w0.setCell ⟨B, 4, none⟩ (.int .i64 0) = W1 at *
  go_upto_region 6 with (first
    | (refine load_pk rfl _ rfl B rfl h0 _ D HBX.out ?_)
    | (go_at_call 38; refine (HPUT.out _ HBL.out).mono ?_; rintro e W2 ⟨rfl, hb2⟩))
  have HBX2 := Lib.hid (HBX.out.below hb2); have HBL2 := Lib.hid (bel_trans HBL.out hb2)
  clear hb2 HBX HBL
  by_cases hn0 : n = 0
  · subst hn0
    obtain ⟨hl0, hl25⟩ := HLEN.out rfl
    obtain ⟨q0, hq0⟩ : ∃ q, str l = q := ⟨_, rfl⟩
    -- the place
    obtain ⟨dd, hdd⟩ : ∃ d : Int, 8 * (l.length : Int) = d := ⟨_, rfl⟩
    obtain ⟨m1, m2⟩ := tmod_lim at_ dd (by omega)
    obtain ⟨k1, hk1⟩ : ∃ k, at_.tmod dd = k := ⟨_, rfl⟩
    rw [hk1] at m1 m2
    have m5 : 0 ≤ (k1 + dd).tmod dd := Int.tmod_nonneg _ (by omega)
    obtain ⟨m3, m4⟩ := tmod_lim (k1 + dd) dd (by omega)
    obtain ⟨q, hq⟩ : ∃ q, (k1 + dd).tmod dd = q := ⟨_, rfl⟩
    rw [hq] at m3 m4 m5
    obtain ⟨p, hp⟩ : ∃ p : Nat, q.tdiv 8 = (p : Int) := ⟨(q.tdiv 8).toNat, by rw [Int.tdiv_eq_ediv_of_nonneg m5]; omega⟩
    obtain ⟨k, hk⟩ : ∃ k : Nat, q.tmod 8 = (k : Int) := ⟨(q.tmod 8).toNat, by rw [Int.tmod_eq_emod_of_nonneg m5]; omega⟩
    have hpl : p < l.length := by rw [Int.tdiv_eq_ediv_of_nonneg m5] at hp; omega
    have hk8 : k < 8 := by rw [Int.tmod_eq_emod_of_nonneg m5] at hk; omega
    -- the byte
    obtain ⟨fx, fl, _⟩ := M.flip_byte (l.getD p 0).toNat k (l.getD p 0).toNat_lt hk8
    obtain ⟨b, hb⟩ : ∃ b : UInt8, b.toNat = (l.getD p 0).toNat ^^^ 2 ^ k := ⟨UInt8.ofNat ((l.getD p 0).toNat ^^^ 2 ^ k), by rw [UInt8.toNat_ofNat']; exact Nat.mod_eq_of_lt fl⟩
    have HGE : Hid (¬ (p = 5 ∧ k < 4) → getErr (l.set p b) ≠ 0) := Lib.hid (HBIT.out rfl p k b hpl hk8 hb)
    rw [← hb] at fx
    have hbyte : l[p] = l.getD p 0 := by rw [List.getD_eq_getElem?_getD, List.getElem?_eq_getElem hpl]; rfl
    have hlen2 : (l.set p b).length = l.length := by simp
    have HCR := Lib.hid (fun w => conv_row w l)
    have hsz : (str l).size = l.length := rfl
    have HBRC := Lib.hid (fun (W : World) (g : Nat) (h : BRow W g l) => (show W.cell? ⟨g, p, none⟩ = some (.int .u8 (l.getD p 0).toNat) by rw [h.cell p hpl, hbyte]; rfl))
    have HBRF := Lib.hid (fun (W : World) (g : Nat) (h : BRow W g l) => h.free p hpl)
    have HBRS := Lib.hid (fun (W : World) (g : Nat) (h : BRow W g l) => h.set p b (b.toNat : Int) rfl)
    have HCV : Hid (∀ (W : World) (g cap : Nat), BRow W g (l.set p b) → (convert 36 9 (.slice (some ⟨g, 0, none⟩) l.length cap)).run Tryz.prog W = .ok (.string (str (l.set p b))) W) := Lib.hid (fun W g cap h => by have e := h.conv cap; rwa [hlen2] at e)
    have HGET := Lib.hid (fun W => pktGet_any (l.set p b) (by rw [hlen2]; omega) W)
    obtain ⟨E, hE⟩ : ∃ E, getErr (l.set p b) = E := ⟨_, rfl⟩
    unfold GetPk at HGET
    rw [hE] at HGET HGE
    have hdz : (dd == 0) = false := by rw [beq_eq_false_iff_ne]; omega
    have hbs : ((str l).size : Int) = (l.length : Int) := rfl
    rw [hq0] at hbs HCR ⊢
    obtain ⟨bm, hbm⟩ : ∃ z, str (l.set p b) = z := ⟨_, rfl⟩
    rw [hbm] at HCV HGET
    have HX := Lib.hid fx
    generalize (l.getD p 0).toNat = c at *
    obtain ⟨N, hN⟩ : ∃ N, l.length = N := ⟨_, rfl⟩
    rw [hN] at hdd hpl hbs HCR HCV hl25
    have hqs : q0.size ≤ 2500 := by omega
    have HE5 : Hid (((p : Int) == 5) = decide (p = 5)) := Lib.hid (by rw [Bool.eq_iff_iff, beq_iff_eq, decide_eq_true_eq]; omega)
    have HE4 : Hid (decide ((k : Int) < 4) = decide (k < 4)) := Lib.hid (by rw [decide_eq_decide]; omega)
    clear hb hbyte hlen2 hsz hq0 hbm hl0 fx fl hE HBIT HLEN HPUT HMAY hN
    go_upto_region 9 with fail
    cases e5 : ((p : Int) == 5) with
    | false =>
      have hnE := HGE.out (fun hh => by have := HE5.out; rw [e5, decide_eq_true hh.1] at this; cases this)
      obtain ⟨cap, o, hcv, hrow⟩ := HCR.out W2
      go_upto_region 12 with fail
      have hb9 : Below w.heap.size w (W2.alloc o).drew := bel_trans HBL2.out (bel_trans (bel_alloc W2 o) (bel_drewN _ 1))
      have hrow : BRow (W2.alloc o).drew W2.heap.size l := hrow.same rfl
      have hg9 : w.heap.size ≤ W2.heap.size := HBL2.out.size
      clear hcv HBX2 HBL2
      generalize W2.heap.size = g at *
      generalize (W2.alloc o).drew = W9 at *
      have hlt := hrow.lt
      have c9 := HBRC.out W9 g hrow
      have f9 := HBRF.out W9 g hrow
      have HB9 := Lib.hid hb9
      have HRW := Lib.hid hrow
      clear hb9 hrow
      have hz : bits .xor .u8 (c : Int) ((2 : Int) ^ k % 256) = (b.toNat : Int) := by rw [pow_256 k hk8]; exact HX.out
      go_region
      have hb10 : Below w.heap.size w (W9.setCell ⟨g, p, none⟩ (.int .u8 (b.toNat : Int))).drew := (HB9.out.setCell (p := ⟨g, p, none⟩) hg9 _).drew
      have hr10 : BRow (W9.setCell ⟨g, p, none⟩ (.int .u8 (b.toNat : Int))).drew g (l.set p b) := (HBRS.out W9 g HRW.out).same rfl
      clear c9 f9 hlt
      go_upto_region 13 with fail
      generalize (W9.setCell ⟨g, p, none⟩ (.int .u8 (b.toNat : Int))).drew = WA at *
      have cv0 := HCV.out WA g cap hr10
      have HBA := Lib.hid hb10
      clear hb10 hr10 hz
      have t1 : ((E : Int) != 0) = true := by rw [bne_iff_ne]; omega
      go_upto_region 14 with (first
        | (go_at_call 40; refine (HGET.out _).mono ?_; rintro e W6 ⟨hb6, he6, _⟩; obtain rfl := he6 hnE; unfold Pv0 Pv)
        | (refine store_pk rfl _ _ rfl _ Hd.zero Hd.zero _ _ ⟨#[]⟩ none 0 0 rfl rfl (pk_new_at _ _ rfl) ?_; intro W7 hp7 hg7))
      have hbz := bel_trans HBA.out hb6
      have hb7 : Below w.heap.size w W7 := (bel_trans hbz (bel_alloc _ _)).grown hg7 (bel_trans hbz (bel_alloc _ _)).size (fun k hk => by cases hk; exact hbz.size)
      clear HBA hb6 hg7 hp7 hbz
      go_wp2
      go_ret
      exact ⟨rfl, hb7⟩
    | true =>
      cases e4 : decide ((k : Int) < 4) with
      | true =>
        go_wp2
        go_ret
        exact ⟨rfl, HBL2.out⟩
      | false =>
        have hnE := HGE.out (fun hh => by have := HE4.out; rw [e4, decide_eq_true hh.2] at this; cases this)
        obtain ⟨cap, o, hcv, hrow⟩ := HCR.out W2
        go_upto_region 12 with fail
        have hb9 : Below w.heap.size w (W2.alloc o).drew := bel_trans HBL2.out (bel_trans (bel_alloc W2 o) (bel_drewN _ 1))
        have hrow : BRow (W2.alloc o).drew W2.heap.size l := hrow.same rfl
        have hg9 : w.heap.size ≤ W2.heap.size := HBL2.out.size
        clear hcv HBX2 HBL2
        generalize W2.heap.size = g at *
        generalize (W2.alloc o).drew = W9 at *
        have hlt := hrow.lt
        have c9 := HBRC.out W9 g hrow
        have f9 := HBRF.out W9 g hrow
        have HB9 := Lib.hid hb9
        have HRW := Lib.hid hrow
        clear hb9 hrow
        have hz : bits .xor .u8 (c : Int) ((2 : Int) ^ k % 256) = (b.toNat : Int) := by rw [pow_256 k hk8]; exact HX.out
        go_region
        have hb10 : Below w.heap.size w (W9.setCell ⟨g, p, none⟩ (.int .u8 (b.toNat : Int))).drew := (HB9.out.setCell (p := ⟨g, p, none⟩) hg9 _).drew
        have hr10 : BRow (W9.setCell ⟨g, p, none⟩ (.int .u8 (b.toNat : Int))).drew g (l.set p b) := (HBRS.out W9 g HRW.out).same rfl
        clear c9 f9 hlt
        go_upto_region 13 with fail
        generalize (W9.setCell ⟨g, p, none⟩ (.int .u8 (b.toNat : Int))).drew = WA at *
        have cv0 := HCV.out WA g cap hr10
        have HBA := Lib.hid hb10
        clear hb10 hr10 hz
        have t1 : ((E : Int) != 0) = true := by rw [bne_iff_ne]; omega
        go_upto_region 14 with (first
          | (go_at_call 40; refine (HGET.out _).mono ?_; rintro e W6 ⟨hb6, he6, _⟩; obtain rfl := he6 hnE; unfold Pv0 Pv)
          | (refine store_pk rfl _ _ rfl _ Hd.zero Hd.zero _ _ ⟨#[]⟩ none 0 0 rfl rfl (pk_new_at _ _ rfl) ?_; intro W7 hp7 hg7))
        have hbz := bel_trans HBA.out hb6
        have hb7 : Below w.heap.size w W7 := (bel_trans hbz (bel_alloc _ _)).grown hg7 (bel_trans hbz (bel_alloc _ _)).size (fun k hk => by cases hk; exact hbz.size)
        clear HBA hb6 hg7 hp7 hbz
        go_wp2
        go_ret
        exact ⟨rfl, hb7⟩
  · have t1 : ((n : Int) != 0) = true := by rw [bne_iff_ne]; omega
    clear HBIT HLEN HPUT
    go_wp2_with (first
      | (refine load_pk rfl _ rfl B rfl h0 _ D HBX2.out ?_)
      | (go_at_call 39; refine (HMAY.out _ HBL2.out).mono ?_; rintro e W3 ⟨rfl, hb3⟩))
    go_ret
    exact ⟨by simp, bel_trans HBL2.out hb3⟩
end Go.Proofs.YtjbcjcfmjagbkaaGreatDoor
