/-
  A packet's error, as the laws say it.
-/
import Derived.Test.YtjbcjcfmjagbkaaGreatDoorPktC
import Derived.Test.YtjbcjcfmjagbkaaGreatDoorRefOpN
import Derived.Test.YtjbcjcfmjagbkaaGreatDoorMayH
import Derived.Test.YtjbcjcfmjagbkaaGreatDoorBegunM
namespace Go.Proofs.YtjbcjcfmjagbkaaGreatDoor
open Go.ChangeShapes Go.WideShapes Go.ChangeAt Go.RowKit
set_option linter.unusedVariables false
set_option linter.unusedSimpArgs false

def Hd.off63 (h : Hd) : Hd := { h with off := 63, sum := 0 }
theorem off63_may (h : Hd) : h.off63.mayB = h.bare.mayB := by
  rw [Bool.eq_iff_iff, mayB_iff, mayB_iff]
  have hl := sizeN_le h.type h.x
  show (sizeN h.type h.x ≠ 0 ∧ _ ∧ _ ∧ (((sizeN h.type h.x : Nat) : Int) / 4 ≤ 63 ∧ (63 : Int) ≤ 255) ∧ _) ↔ (sizeN h.type h.x ≠ 0 ∧ _ ∧ _ ∧ (((sizeN h.type h.x : Nat) : Int) / 4 ≤ ((sizeN h.type h.x / 4 : Nat) : Int) ∧ ((sizeN h.type h.x / 4 : Nat) : Int) ≤ 255) ∧ _)
  have e1 : (((sizeN h.type h.x : Nat) : Int) / 4 ≤ 63 ∧ (63 : Int) ≤ 255) ↔ True := ⟨fun _ => trivial, fun _ => by omega⟩
  have e2 : (((sizeN h.type h.x : Nat) : Int) / 4 ≤ ((sizeN h.type h.x / 4 : Nat) : Int) ∧ ((sizeN h.type h.x / 4 : Nat) : Int) ≤ 255) ↔ True := ⟨fun _ => trivial, fun _ => by omega⟩
  rw [e1, e2]
  exact Iff.rfl
theorem putOpts_all {os : List M.Opt} (h : os.all M.optMay = true) : (M.putOpts os).length = ((M.optsBytes os).length + 3) / 4 * 4 := by
  unfold M.putOpts
  rw [if_pos h]
  unfold M.pad4 M.padLen
  rw [List.length_append, List.length_replicate]
  omega
theorem putOpts_bad {os : List M.Opt} (h : ¬ os.all M.optMay = true) : (M.putOpts os).length = 0 := by
  unfold M.putOpts; rw [if_neg h]; rfl
theorem putOpts_pos {os : List M.Opt} (h : os.all M.optMay = true) (h0 : 0 < os.length) : (M.putOpts os).length ≠ 0 := by
  rw [putOpts_all h]
  cases os with
  | nil => simp at h0
  | cons o os =>
    simp only [List.all_cons, Bool.and_eq_true] at h
    have := (M.optBytes_len h.1).1
    have e : M.optsBytes (o :: os) = M.optBytes o ++ M.optsBytes os := by simp [M.optsBytes]
    rw [e, List.length_append]; omega

set_option maxHeartbeats 8000000 in
set_option maxRecDepth 100000 in
theorem may1_any (h : Hd) (hok : h.ok) (va : Option Addr) (vc : Nat) (os : List M.Opt) (d : List UInt8) (w : World) (hos : OptsAt w (.slice va os.length vc) os) (hd : d.length ≤ 1000000000) (hol : os.length ≤ 1100000) :
    Calls Tryz.prog 39 #[Pv h (.slice va os.length vc) (str d)] w fun e w' => e = .returned (.int .i64 (putErr h os d : Nat)) ∧ Below w.heap.size w w' := by
  have HPE : Hid (putErr h os d = if h.bare.mayB = false then 3 else if (M.putOpts os).length = 0 ∧ 0 < os.length then 7
    else if largeB (offN h os) d.length = true then 13 else if covB (4 * offN h os + d.length : Nat) (4 * offN h os : Nat) h.cs = false then 5 else 0) := Lib.hid rfl
  obtain ⟨D, hDD⟩ : ∃ D, str d = D := ⟨_, rfl⟩
  rw [hDD]
  have hDs : Hid (D.size = d.length) := Lib.hid (by rw [← hDD]; rfl)
  have HBOX := Lib.hid (PkBlk.new h (.slice va os.length vc) D w)
  have hbx : PkBox h (.slice va os.length vc) D = .cells #[.int .i64 h.src, .int .i64 h.dst, .int .i64 h.off, .int .i64 h.cc, .int .i64 h.cs, .int .i64 h.sum, .int .i64 h.type, .bool h.x, .int .u64 h.seq, .int .u64 h.ack, .int .u32 h.service, .int .i64 h.code, .int .u8 h.i0, .int .u8 h.i1, .int .u8 h.i2, .slice va os.length vc, .string D] 49 := rfl
  have HB0 := Lib.hid (bel_alloc w (PkBox h (.slice va os.length vc) D))
  rw [hbx] at HBOX HB0
  obtain ⟨p0, cap0, hp0, hparts⟩ := hos.parts
  obtain ⟨rfl, _, rfl⟩ : va = p0 ∧ os.length = os.length ∧ vc = cap0 := by cases hp0; exact ⟨rfl, rfl, rfl⟩
  have HP := Lib.hid hparts
  have HDATA := Lib.hid hos.data
  have HMAY := Lib.hid (fun W => refMay_any h.off63 W)
  have HH3 : Hid (h.off63 = { h with off := 63, sum := 0 }) := Lib.hid rfl
  rw [off63_may] at HMAY
  clear hbx hos hDD hp0 hparts
  unfold Pv
  go_enter Tryz.func39, Tryz.ntmps39
  go_upto_region 1 with fail
  obtain ⟨B, hB⟩ : ∃ B, B = w.heap.size := ⟨_, rfl⟩
  have hlt0 := HBOX.out.lt
  rw [← hB] at HBOX HB0 hlt0 ⊢
  have HBB := Lib.hid hB
  generalize w.alloc (Obj.cells #[.int .i64 h.src, .int .i64 h.dst, .int .i64 h.off, .int .i64 h.cc, .int .i64 h.cs, .int .i64 h.sum, .int .i64 h.type, .bool h.x, .int .u64 h.seq, .int .u64 h.ack, .int .u32 h.service, .int .i64 h.code, .int .u8 h.i0, .int .u8 h.i1, .int .u8 h.i2, .slice va os.length vc, .string D] 49) = W0 at *
  clear hB
  go_upto_region 2 with (first
    | (refine load_mid rfl _ rfl B rfl h _ D HBOX.out ?_)
    | (refine store_blk rfl _ _ rfl _ Hd.zero h rfl rfl (hd_new _) ?_; intro W2 hc2 hg2))
  have hBC : B ≠ W0.heap.size := by omega
  have hwW : w.heap.size ≤ W0.heap.size := by rw [← HBB.out]; omega
  have hst : PSt w B W0.heap.size h (.slice va os.length vc) D h W2 := by
    refine ⟨(HBOX.out.other (World.grownBy_alloc _ _ none) (by simp)).other hg2 (by simpa using hBC), hc2, hBC, ?_, hwW⟩
    have b1 : Below w.heap.size w W0 := (by rw [← HBB.out]; exact HB0.out)
    exact (b1.alloc hwW _).grown hg2 (by simp; omega) (fun k hk => by cases hk; exact hwW)
  have HST := Lib.hid hst
  clear hst hg2 hc2 hwW hlt0 HBOX HB0 hBC
  generalize W0.heap.size = C at *
  have c2 := HST.out.hd.at_.2.2.1
  have f2 := HST.out.hd.free 2
  have st1 := HST.out.set { h with off := 63 } 2 (.int .i64 63) rfl
  have c5 := st1.hd.at_.2.2.2.2.2.1
  have f5 := st1.hd.free 5
  have st2 := st1.set h.off63 5 (.int .i64 0) rfl
  have HST2 := Lib.hid st2
  clear st1 st2
  go_upto_region 3 with fail
  clear c2 f2 c5 f5 HST
  generalize (W2.setCell ⟨C, 2, none⟩ (.int .i64 63)).setCell ⟨C, 5, none⟩ (.int .i64 0) = W3 at *
  by_cases hm : h.bare.mayB = false
  · rw [hm] at HMAY
    have HR : Hid (putErr h os d = 3) := Lib.hid (by rw [HPE.out, if_pos hm])
    clear hm HPE
    go_wp2_with (first
      | (refine load_blk rfl _ rfl C rfl _ HST2.out.hd ?_)
      | (go_at_call 20; refine (HMAY.out _).mono ?_; rintro e W4 ⟨rfl, hb4⟩))
    go_ret
    exact ⟨by rw [HR.out]; rfl, bel_trans HST2.out.bel hb4⟩
  · have hm' : h.bare.mayB = true := by simpa using hm
    rw [hm'] at HMAY
    rw [if_neg hm] at HPE
    obtain ⟨_, _, _, _, ⟨cs1, cs2⟩, _, ⟨ty1, ty2⟩, _⟩ := mayB_bounds hm'
    have hcs1 : 0 ≤ h.cs := cs1
    have hcs2 : h.cs ≤ 15 := cs2
    clear hm hm' cs1 cs2 ty1 ty2
    go_upto_region 6 with (first
      | (refine load_blk rfl _ rfl C rfl _ HST2.out.hd ?_)
      | (go_at_call 20; refine (HMAY.out _).mono ?_; rintro e W4 ⟨rfl, hb4⟩))
    have st4 := HST2.out.below hb4
    have c15 := st4.pk.cells.1
    have HST4 := Lib.hid st4
    clear st4 hb4 HST2
    go_upto_region 7 with fail
    clear c15
    go_loopw [4, 18] (fun n i wr => ∃ k : Nat, k ≤ os.length ∧ i = .int .i64 (k : Int) ∧ n = .int .i64 (((M.optsBytes (os.take k)).length : Nat) : Int) ∧ Hid ((os.take k).all M.optMay = true) ∧ Hid (PSt w B C h (.slice va os.length vc) D h.off63 wr)) (fun _ i _ => os.length - (intOf i).toNat)
    case atStart => exact ⟨0, Nat.zero_le _, rfl, rfl, Lib.hid rfl, HST4⟩
    case round =>
      obtain ⟨k, hk, rfl, rfl, hall, hst⟩ := hrel
      have hlen := M.optsBytes_len _ hall.out
      rw [List.length_take, Nat.min_eq_left hk] at hlen
      by_cases hkn : k < os.length
      · obtain ⟨b, o, rfl, hbl, c1, d1⟩ := HP.out k hkn
        rw [← hst.out.bel.cell (p := ⟨b, o + k * 2, none⟩) hbl] at c1
        rw [← hst.out.bel.cell (p := ⟨b, o + k * 2 + 1, none⟩) hbl] at d1
        have hbw : b < wr.heap.size := Nat.lt_of_lt_of_le hbl hst.out.bel.size
        have c15 := hst.out.pk.cells.1
        have hts := take_snocO os k hkn
        have hsn : M.optsBytes (os.take (k + 1)) = M.optsBytes (os.take k) ++ M.optBytes (os.getD k ⟨0, []⟩) := by rw [hts, M.optsBytes_snoc]
        have hdl : (os.getD k ⟨0, []⟩).d.length ≤ maxLen := HDATA.out _ (by
          rw [List.getD_eq_getElem?_getD, List.getElem?_eq_getElem hkn]; exact List.getElem_mem hkn)
        have HMO := Lib.hid (fun w => refMayOpt_any (os.getD k ⟨0, []⟩) (by unfold maxLen at hdl; omega) w)
        have HALL : Hid (M.optMay (os.getD k ⟨0, []⟩) = true → (os.take (k + 1)).all M.optMay = true) := Lib.hid (fun hx => by
          rw [hts, List.all_append, hall.out]; simp only [List.all_cons, List.all_nil, Bool.and_true, Bool.true_and]; exact hx)
        have HBAD : Hid (M.optMay (os.getD k ⟨0, []⟩) = false → ¬ os.all M.optMay = true) := Lib.hid (fun hx hy => by
          have := (List.all_eq_true.1 hy) (os.getD k ⟨0, []⟩) (by
            rw [List.getD_eq_getElem?_getD, List.getElem?_eq_getElem hkn]; exact List.getElem_mem hkn)
          rw [hx] at this; cases this)
        have dk : decide ((k : Int) < (os.length : Int)) = true := decide_eq_true (by omega)
        have dk2 : decide (k < os.length) = true := decide_eq_true hkn
        have HSN := Lib.hid hsn
        generalize os.getD k ⟨0, []⟩ = ok at *
        generalize hln : (M.optsBytes (os.take k)).length = n at *
        have HLN := Lib.hid hln
        clear hts hsn hdl hln
        cases hmo : M.optMay ok with
        | false =>
          rw [hmo] at HMO
          have hna := HBAD.out hmo
          have HR : Hid (putErr h os d = 7) := Lib.hid (by
            rw [HPE.out, if_pos ⟨putOpts_bad hna, by omega⟩])
          unfold Ov at HMO
          clear hmo hna HBAD HALL HPE
          go_wp2_with (go_at_call 92; refine (HMO.out _).mono ?_; rintro e W5 ⟨rfl, hb5⟩)
          go_ret
          exact ⟨by rw [HR.out]; rfl, bel_trans hst.out.bel hb5⟩
        | true =>
          rw [hmo] at HMO
          have HA := Lib.hid (HALL.out hmo)
          have hm : 0 ≤ ok.t ∧ ok.t ≤ 255 ∧ (ok.t < 32 ∧ ok.d.length = 0 ∨ 32 ≤ ok.t ∧ ok.d.length ≤ 253) := of_decide_eq_true hmo
          unfold Ov at HMO
          obtain ⟨ds, hds⟩ : ∃ ds, str ok.d = ds := ⟨_, rfl⟩
          rw [hds] at d1 HMO
          have hdz : ds.size = ok.d.length := by rw [← hds]; rfl
          obtain ⟨L, hL⟩ : ∃ L : Int, (ds.size : Int) = L := ⟨_, rfl⟩
          clear hmo HBAD HALL
          go_upto_region 12 with (go_at_call 92; refine (HMO.out _).mono ?_; rintro e W5 ⟨rfl, hb5⟩)
          have st5 := hst.out.below hb5
          rw [← hb5.cell (p := ⟨b, o + k * 2, none⟩) hbw] at c1
          rw [← hb5.cell (p := ⟨b, o + k * 2 + 1, none⟩) hbw] at d1
          have c15 := st5.pk.cells.1
          have HST5 := Lib.hid st5
          clear st5 hb5 hst hbw hbl
          by_cases h32 : ok.t < 32
          · have h32' : decide ((32 : Int) ≤ ok.t) = false := decide_eq_false (by omega)
            have HN2 : Hid ((M.optsBytes (os.take (k + 1))).length = n + 1) := Lib.hid (by
              rw [HSN.out, List.length_append, HLN.out]; unfold M.optBytes; rw [if_pos h32]; rfl)
            clear hds hdz hm h32
            go_wp2
            refine ⟨⟨k + 1, by omega, by go_num, by rw [HN2.out]; go_num, HA, HST5⟩, ?_⟩
            simp [intOf]; omega
          · have h32' : decide ((32 : Int) ≤ ok.t) = true := decide_eq_true (by omega)
            have hL0 : 0 ≤ L ∧ L ≤ 253 := by omega
            have HLL : Hid (L = (ok.d.length : Int)) := Lib.hid (by omega)
            have HN2 : Hid ((M.optsBytes (os.take (k + 1))).length = n + 2 + ok.d.length) := Lib.hid (by
              rw [HSN.out, List.length_append, HLN.out]; unfold M.optBytes; rw [if_neg h32]; simp; omega)
            clear hds hdz hm h32
            go_wp2
            refine ⟨⟨k + 1, by omega, by go_num, ?_, HA, HST5⟩, ?_⟩
            · rw [HN2.out]
              have := HLL.out
              congr 1
              omega
            · simp [intOf]; omega
      · obtain rfl : k = os.length := by omega
        have dk : decide ((os.length : Int) < (os.length : Int)) = false := decide_eq_false (by omega)
        have ha := hall.out
        rw [List.take_length] at ha ⊢
        rw [List.take_length] at hlen
        have hpl := putOpts_all ha
        have h7 : ¬ ((M.putOpts os).length = 0 ∧ 0 < os.length) := fun hh => putOpts_pos ha hh.2 hh.1
        rw [if_neg h7] at HPE
        have hs4 := sizeN_four h.type h.x
        have hsl := sizeN_le h.type h.x
        have hoff : 4 * offN h os = ((M.optsBytes os).length + 3) / 4 * 4 + sizeN h.type h.x := by unfold offN; omega
        have HSZ := Lib.hid (fun w => refSize_any h.type h.x w)
        have hnl : (M.optsBytes os).length ≤ 280500000 := by omega
        generalize (M.optsBytes os).length = N at *
        generalize sizeN h.type h.x = S at *
        obtain ⟨Z, hZ⟩ : ∃ Z : Int, (D.size : Int) = Z := ⟨_, rfl⟩
        have hZd : Z = (d.length : Int) := by rw [← hZ, hDs.out]
        obtain ⟨q, hq⟩ : ∃ q : Int, ((N : Int) + 3) / 4 = q := ⟨_, rfl⟩
        have hq2 : ((N : Int) + 3).tdiv 4 = q := by rw [Int.tdiv_eq_ediv_of_nonneg (by omega), hq]
        have hqo : q * 4 + (S : Int) = ((4 * offN h os : Nat) : Int) := by omega
        have hqb : 0 ≤ q ∧ q ≤ 100000000 := by omega
        obtain ⟨T, hT⟩ : ∃ T : Int, ((4 * offN h os : Nat) : Int) = T := ⟨_, rfl⟩
        rw [hT] at hqo
        have hTb : 0 ≤ T ∧ T ≤ 500000000 := by omega
        have hZb : 0 ≤ Z ∧ Z ≤ 1000000000 := by omega
        have HCV := Lib.hid (fun w => refCovered_any (T + Z) T h.cs (by omega) (by omega) (by omega) (by omega) (by omega) (by omega) w)
        have c6 := hst.out.hd.at_.2.2.2.2.2.2.1
        have c7 := hst.out.hd.at_.2.2.2.2.2.2.2.1
        have c4 := hst.out.hd.at_.2.2.2.2.1
        have c16 := hst.out.pk.cells.2
        have HLB : Hid (largeB (offN h os) d.length = decide (1020 < T ∨ 1400 < Z ∨ 2500 < T + Z)) := Lib.hid (by
          unfold largeB
          rw [decide_eq_decide]; omega)
        have HCB : Hid (covB (4 * offN h os + d.length : Nat) (4 * offN h os : Nat) h.cs = covB (T + Z) T h.cs) := Lib.hid (by
          rw [hT, show ((4 * offN h os + d.length : Nat) : Int) = T + Z by omega])
        rw [HLB.out, HCB.out] at HPE
        have hw1 : h.off63.type = h.type := rfl
        have hw2 : h.off63.x = h.x := rfl
        have hw3 : h.off63.cs = h.cs := rfl
        rw [hw1] at c6
        rw [hw2] at c7
        rw [hw3] at c4
        have hq3 : q * 4 + (S : Int) = T := hqo
        clear hw1 hw2 hw3 ha hpl h7 hs4 hsl hoff hnl hZd hq hT hqo HLB HCB hall
        go_upto_region 16 with (go_at_call 24; refine (HSZ.out _).mono ?_; rintro e W5 ⟨rfl, rfl⟩)
        clear hq3 c6 c7 hq2
        by_cases hl : 1020 < T ∨ 1400 < Z ∨ 2500 < T + Z
        · have HR : Hid (putErr h os d = 13) := Lib.hid (by rw [HPE.out, if_pos (decide_eq_true hl)])
          have hcase : decide ((1020 : Int) < T) = true ∨ (decide ((1020 : Int) < T) = false ∧ decide ((1400 : Int) < Z) = true) ∨ (decide ((1020 : Int) < T) = false ∧ decide ((1400 : Int) < Z) = false ∧ decide ((2500 : Int) < T + Z) = true) := by
            simp only [decide_eq_true_eq, decide_eq_false_iff_not]
            omega
          clear hl HPE
          rcases hcase with e1 | ⟨e1, e2⟩ | ⟨e1, e2, e3⟩
          all_goals
            go_wp2
            go_ret
            exact ⟨by rw [HR.out]; rfl, hst.out.bel⟩
        · rw [if_neg (by rw [decide_eq_true_eq]; exact hl)] at HPE
          have e1 : decide ((1020 : Int) < T) = false := decide_eq_false (by omega)
          have e2 : decide ((1400 : Int) < Z) = false := decide_eq_false (by omega)
          have e3 : decide ((2500 : Int) < T + Z) = false := decide_eq_false (by omega)
          clear hl
          cases hcb : covB (T + Z) T h.cs with
          | false =>
            rw [hcb] at HCV
            have HR : Hid (putErr h os d = 5) := Lib.hid (by rw [HPE.out, if_pos hcb])
            clear hcb HPE
            generalize covI (T + Z) T h.cs = cI at *
            go_wp2_with (go_at_call 42; refine (HCV.out _).mono ?_; rintro e W6 ⟨rfl, rfl⟩)
            go_ret
            exact ⟨by rw [HR.out]; rfl, hst.out.bel⟩
          | true =>
            rw [hcb] at HCV
            have HR : Hid (putErr h os d = 0) := Lib.hid (by rw [HPE.out, if_neg (by rw [hcb]; decide)])
            clear hcb HPE
            generalize covI (T + Z) T h.cs = cI at *
            go_wp2_with (go_at_call 42; refine (HCV.out _).mono ?_; rintro e W6 ⟨rfl, rfl⟩)
            go_ret
            exact ⟨by rw [HR.out]; rfl, hst.out.bel⟩
end Go.Proofs.YtjbcjcfmjagbkaaGreatDoor
