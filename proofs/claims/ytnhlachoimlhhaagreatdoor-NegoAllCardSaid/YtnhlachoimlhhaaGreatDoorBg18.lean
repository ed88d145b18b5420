/-
  law18's opening, walked.
-/
import Derived.Test.YtnhlachoimlhhaaGreatDoorVdB
import Derived.Test.YtnhlachoimlhhaaGreatDoorNgZ
import Derived.Test.YtnhlachoimlhhaaGreatDoorFtW
import Derived.Test.YtnhlachoimlhhaaGreatDoorQuW
import Derived.Test.YtnhlachoimlhhaaGreatDoorCtW
import Derived.Test.YtnhlachoimlhhaaGreatDoorBegun8
namespace Go.Proofs.YtnhlachoimlhhaaGreatDoor
open Go.ChangeShapes Go.WideShapes Go.ChangeAt Go.RowKit
set_option linter.unusedVariables false
set_option linter.unusedSimpArgs false

def bn1 : NgS := { ngInit false with want := upd (ngInit false).want 1 [3, 2] }
theorem bn1_ok : bn1.Ok := (ngInit_ok false).want_ 1 [3, 2] (by decide)
theorem bn1_asks : bn1.asks = [⟨32, [1, 3, 2]⟩] := by rfl
def bp0 : PcS := ⟨64000000 * 100, 0, 0, 0, 0⟩
def bp1 : PcS := (bp0.fill 0).rated 640000
theorem bp0_ok : bp0.Ok := PcS.Ok.new 100 0 (by decide) (by decide)
theorem bp1_ok : bp1.Ok := (bp0_ok.fill 0).rated 640000 (by decide)
theorem bp1_eq : bp1 = ⟨6400000000, 0, 640000, 0, 0⟩ := by
  have h := PcS.first 100 0 0 640000 (by decide) (by decide)
  exact h
theorem bp1_cap : bp1.cap = 6400000000 := by rw [bp1_eq]; unfold PcS.cap; rw [M.mulT_zero]; rfl
theorem bp1_fill : bp1.fill 1000000 = ⟨6400000000, 0, 640000, 6400000000, 1000000⟩ := by
  have e1 : bp1.at_ 1000000 = 1000000 := by rw [bp1_eq]; unfold PcS.at_; decide
  unfold PcS.fill
  rw [e1]
  unfold PcS.to
  rw [bp1_cap, bp1_eq]
  show PcS.mk 6400000000 0 640000 (min (M.addT 0 (M.mulT 640000 ((1000000 : Int) - 0).toNat)) 6400000000) 1000000 = _
  rw [show ((1000000 : Int) - 0).toNat = 1000000 by decide, M.mulT_at _ _ (by decide), M.addT_at _ _ (by decide)]
  rfl
theorem bp1_has : (bp1.fill 1000000).has 100 = true := by rw [bp1_fill]; have h := PcS.has_in ⟨6400000000, 0, 640000, 6400000000, 1000000⟩ 100 (by decide); rw [show ((100 : Nat) : Int) = 100 from rfl] at h; rw [h]; exact decide_eq_true (by decide)
theorem bp2_not : ((bp1.fill 1000000).fill 1000000).has 101 = false := by
  have e : ((bp1.fill 1000000).fill 1000000).hv ≤ 6400000000 := by
    show min _ ((bp1.fill 1000000).cap) ≤ _
    have hc : (bp1.fill 1000000).cap = 6400000000 := by rw [bp1_fill]; unfold PcS.cap; rw [M.mulT_zero]; rfl
    omega
  have h := PcS.has_in ((bp1.fill 1000000).fill 1000000) 101 (by decide)
  rw [show ((101 : Nat) : Int) = 101 from rfl] at h
  rw [h]
  exact decide_eq_false (by omega)
def bv : Vw := ⟨5, 50, 100, 0, 1, 1, 100, 100⟩
theorem bv_ok : bv.Ok := ⟨by decide, by decide, by decide, by decide, by decide, by decide, by decide⟩
theorem bv_win : bv.swl = 76 ∧ bv.swh = 175 ∧ bv.awl = 1 ∧ bv.awh = 50 := ⟨by rfl, by rfl, by rfl, by rfl⟩
def bh : Hd := ⟨0, 0, 0, 0, 0, 0, 2, true, 101, 0, 0, 0, 0, 0, 0⟩
theorem bv_judge : bv.judge (bv.long bh) = 1 := by rfl
theorem bv_windows (w : World) : Calls Tryz.prog 59 #[bv.val] w fun e w' => e = .returned (.tuple #[.int .u64 76, .int .u64 175, .int .u64 1, .int .u64 50]) ∧ Below w.heap.size w w' := by
  have h := vdWindows_any bv bv_ok w
  rw [bv_win.1, bv_win.2.1, bv_win.2.2.1, bv_win.2.2.2] at h
  exact h
theorem bv_check (w : World) : Calls Tryz.prog 37 #[bv.val, .agg #[.int .i64 0, .int .i64 0, .int .i64 0, .int .i64 0, .int .i64 0, .int .i64 0, .int .i64 2, .bool true, .int .u64 101, .int .u64 0, .int .u32 0, .int .i64 0, .int .u8 0, .int .u8 0, .int .u8 0, .slice none 0 0, .string ⟨#[]⟩]] w fun e w' => e = .returned (.int .i64 1) ∧ Below w.heap.size w w' := by
  have h := vdCheck_nil bv bv_ok bh (by decide) (by decide) ⟨#[]⟩ w
  rw [bv_judge] at h
  exact h
theorem bv_new (w : World) : BlkIs (vwCells Vw.zero) 59 w.heap.size (w.alloc (.cells #[.int .i64 0, .int .u64 0, .int .u64 0, .int .u64 0, .int .u64 0, .int .u64 0, .int .i64 0, .int .i64 0] 59)) := BlkIs.new _ _ _
theorem begun8_B (w : World) (hT : TabW w) : Calls Tryz.prog 61 #[] w fun e w' => e = .returned (.bool true) ∧ Below w.heap.size w w' := by
  have HB := Lib.hid (begun8_any w hT)
  clear hT
  go_enter Tryz.func61, Tryz.ntmps61
  go_wp2_with (go_at_call 104; (with_reducible refine HB.out.mono ?_); rintro e w1 ⟨rfl, hb1⟩)
  go_ret
  exact ⟨rfl, hb1⟩
theorem ownB_none : ownB (.slice none 0 0) = [] := rfl
set_option maxHeartbeats 16000000 in
set_option maxRecDepth 100000 in
theorem begun18_any (w : World) (hT : TabW w) : Calls Tryz.prog 14 #[] w fun e w' => e = .returned (.bool true) ∧ Below w.heap.size w w' := by
  have HBG : Hid (∀ W, Below w.heap.size w W → Calls Tryz.prog 61 #[] W fun e w' => e = .returned (.bool true) ∧ Below W.heap.size W w') := Lib.hid (fun W hb => begun8_B W (hT.below hb))
  clear hT
  have HNN := Lib.hid (fun W => ngNew_any false W)
  have HPN : Hid (∀ W, Calls Tryz.prog 57 #[.int .i64 100, .int .i64 0] W fun e w' => ∃ C, e = .returned (.pointer (some ⟨C, 0, none⟩)) ∧ PcAt bp0 C w' ∧ W.heap.size ≤ C ∧ Below W.heap.size W w') := Lib.hid (fun W => paceNew_any 100 0 (by decide) (by decide) (by decide) W)
  have HQN : Hid (∀ W, Calls Tryz.prog 48 #[.int .i64 2] W fun e w' => e = .returned (.pointer (some ⟨W.heap.size, 0, none⟩)) ∧ QuAt 2 [] (.slice none 0 0) W.heap.size w' ∧ Below W.heap.size W w') := Lib.hid (fun W => quNew_yes 2 (by decide) (by decide) W)
  have HCW := Lib.hid (fun W => ctOf_win 100 (by decide) (by decide) W)
  have HCR : Hid (∀ W, Calls Tryz.prog 30 #[.int .i64 3, .int .i64 100] W fun e w' => ∃ K C P B v, e = .returned (crV K) ∧ CrAt (tfFirst 100) [(0, 18446744073709551615)] pcFirst 0 K C P B v w' ∧ W.heap.size ≤ K ∧ W.heap.size ≤ C ∧ W.heap.size ≤ P ∧ W.heap.size ≤ B ∧ (∀ q, v.ownBlock = some q → W.heap.size ≤ q) ∧ Below W.heap.size W w') := Lib.hid (fun W => ctOf_rate 100 (by decide) (by decide) W)
  have q1 := eqW_N
  have q2 := eqR_N
  go_enter Tryz.func14, Tryz.ntmps14
  go_upto_region 2 with (first
    | (go_at_call 15; (with_reducible refine (HNN.out _).mono ?_); rintro e w1 ⟨rfl, h1, b1⟩)
    | (go_at_call 57; (with_reducible refine (HPN.out _).mono ?_); rintro e w2 ⟨Cp, rfl, h2, hp2, b2⟩)
    | (go_at_call 48; (with_reducible refine (HQN.out _).mono ?_); rintro e w3 ⟨rfl, h3, b3⟩)
    | (go_at_call 30; (first
      | ((with_reducible refine (HCW.out _).mono ?_); rintro e w4 ⟨Ka, Ca, Da, rfl, h4, hKa, hCa, hDa, b4⟩)
      | ((with_reducible refine (HCR.out _).mono ?_); rintro e w5 ⟨K, C, P, B, v, rfl, h5, hK, hC, hP, hB, hv, b5⟩))))
  have s1 := b1.size
  have s2 := b2.size
  have s3 := b3.size
  have s4 := b4.size
  have s5 := b5.size
  have l1 := BlkIs.lt h1
  have l2 := BlkIs.lt h2
  have l3 := h3.blk.lt
  have l4 := h4.blk.lt
  have l41 := h4.win.win.lt
  have l42 := BlkIs.lt h4.win.rtt
  have N5 : Hid (NgAt (ngInit false) (.slice none 0 0) w.heap.size w5) := Lib.hid (BlkIs.below (BlkIs.below (BlkIs.below (BlkIs.below h1 b2) b3) b4) b5)
  have P5 : Hid (PcAt bp0 Cp w5) := Lib.hid (BlkIs.below (BlkIs.below (BlkIs.below h2 b3) b4) b5)
  have Q5 : Hid (QuAt 2 [] (.slice none 0 0) w2.heap.size w5) := Lib.hid (by
    have k4 := Kept.of_below [] b4
    have k5 := Kept.of_below [] b5
    exact (h3.kept k4 (by simp) (fun g hg => by cases hg)).kept k5 (by simp) (fun g hg => by cases hg))
  have A5 : Hid (CwAt WinS.init RttS.zero Ka Ca Da w5) := Lib.hid (h4.below b5)
  have D5 : Hid (CrAt (tfFirst 100) [(0, 18446744073709551615)] pcFirst 0 K C P B v w5) := Lib.hid h5
  have HB5 : Hid (Below w.heap.size w w5) := Lib.hid ((((b1.trans (b2.mono (by omega))).trans (b3.mono (by omega))).trans (b4.mono (by omega))).trans (b5.mono (by omega)))
  have HNE : Hid (w.heap.size < w1.heap.size ∧ w1.heap.size ≤ Cp ∧ Cp < w2.heap.size ∧ w2.heap.size < w3.heap.size ∧ w3.heap.size ≤ Ka ∧ w3.heap.size ≤ Ca ∧ w3.heap.size ≤ Da ∧ Ka < w4.heap.size ∧ Ca < w4.heap.size ∧ Da < w4.heap.size ∧ w4.heap.size ≤ w5.heap.size) := Lib.hid ⟨l1, hp2, l2, l3, hKa, hCa, hDa, l4, l41, l42, s5⟩
  have HNE2 : Hid (w4.heap.size ≤ K ∧ w4.heap.size ≤ C ∧ w4.heap.size ≤ P ∧ w4.heap.size ≤ B ∧ ∀ q, v.ownBlock = some q → w4.heap.size ≤ q) := Lib.hid ⟨hK, hC, hP, hB, hv⟩
  clear h1 h2 h3 h4 h5 b1 b2 b3 b4 b5 s1 s2 s3 s4 s5 l1 l2 l3 l4 l41 l42 hp2 hKa hCa hDa hK hC hP hB hv HNN HPN HQN HCW HCR
  unfold cwV crV at *
  obtain ⟨Cn, hCn⟩ : ∃ x, w.heap.size = x := ⟨_, rfl⟩
  obtain ⟨Cq, hCq⟩ : ∃ x, w2.heap.size = x := ⟨_, rfl⟩
  rw [hCn] at N5 HNE HB5
  rw [hCq] at Q5 HNE
  rw [hCn, hCq]
  have HWN : Hid (Calls Tryz.prog 18 #[.pointer (some ⟨Cn, 0, none⟩), .int .i64 1, .string { data := #[3, 2] }] w5 fun e w' => e = .returned (.int .i64 0) ∧ NgAt bn1 (.slice none 0 0) Cn w' ∧ Kept [Cn] w5 w') := Lib.hid (by
    have h9 := ngWant_any (ngInit false) (.slice none 0 0) 1 [3, 2] (by decide) Cn w5 N5.out
    rw [show ngJudge 1 [3, 2] = 0 by decide, if_pos rfl] at h9
    exact h9)
  have HNEe := Lib.hid hCn
  clear hCn hCq
  go_upto_region 5 with (go_at_call 18; (with_reducible refine HWN.out.mono ?_); rintro e w6 ⟨rfl, n6, k6⟩)
  have HOP := Lib.hid (ngOpts_any bn1 [] (.slice none 0 0) Cn w6 n6 (OpRow.nil _) bn1_ok (by decide))
  have K6 := Lib.hid k6
  clear n6 k6 HWN
  go_upto_region 6 with (go_at_call 22; (with_reducible refine HOP.out.mono ?_); rintro e w7 ⟨lv, rfl, r7, n7, k7, o7⟩)
  have z6 := K6.out.size
  have z7 := k7.size
  have K7 : Hid (Kept [Cn] w5 w7) := Lib.hid (K6.out.trans' (k7.more (fun x hx => by rw [ownB_none] at hx; exact hx)))
  rw [List.nil_append, bn1_asks] at r7
  have og : ∀ g, lv.ownBlock = some g → w5.heap.size ≤ g := fun g hg => by
    rcases o7 g hg with e | e
    · cases e
    · omega
  obtain ⟨g, cap, rfl, hcap, _, c1, hg⟩ := LstAt.one (C := Cn) (B := 0) (W := w7) ⟨r7, fun g hg => ⟨Nat.zero_le _, by have := og g hg; have := HNE.out; omega⟩⟩
  have og2 : w5.heap.size ≤ g := og g rfl
  have N7 := Lib.hid n7
  have C7 : Hid (w7.cell? ⟨g, 1, none⟩ = some (.string { data := #[1, 3, 2] }) ∧ g < w7.heap.size ∧ w5.heap.size ≤ g) := Lib.hid ⟨c1, hg, og2⟩
  have P7 : Hid (PcAt bp0 Cp w7) := Lib.hid (BlkIs.kept P5.out K7.out (by have := HNE.out; simp; omega))
  have HRT : Hid (∀ W, PcAt bp0 Cp W → Calls Tryz.prog 40 #[.pointer (some ⟨Cp, 0, none⟩), .int .i64 0, .int .u64 640000] W fun e w' => e = .returned (.tuple #[]) ∧ PcAt bp1 Cp w' ∧ Kept [Cp] W w') := Lib.hid (fun W hW => paceRate_any bp0 bp0_ok 0 640000 (by decide) Cp W hW)
  clear r7 n7 k7 o7 z6 og c1 hg og2 HOP K6
  go_upto_region 7 with (go_at_call 40; (with_reducible refine (HRT.out _ P7.out).mono ?_); rintro e w8 ⟨rfl, p8, k8⟩)
  have P8 := Lib.hid p8
  have K8 := Lib.hid k8
  have Q8 : QuAt 2 [] (.slice none 0 0) Cq w8 := (Q5.out.kept K7.out (by have := HNE.out; simp; omega) (fun g hg => by cases hg)).kept k8 (by have := HNE.out; simp; omega) (fun g hg => by cases hg)
  have HPT : Hid (Calls Tryz.prog 45 #[.pointer (some ⟨Cq, 0, none⟩), .string { data := #[120] }] w8 fun e w' => e = .returned (.int .i64 0) ∧ ∃ v', QuAt 2 ([] ++ [[120]]) v' Cq w' ∧ Kept (Cq :: ownB (.slice none 0 0)) w8 w' ∧ (∀ g, v'.ownBlock = some g → (Value.slice none 0 0).ownBlock = some g ∨ w8.heap.size ≤ g)) := Lib.hid (quPut_yes 2 (by decide) [] [120] (by decide) (by decide) (.slice none 0 0) Cq w8 Q8)
  clear p8 k8 Q8
  go_upto_region 8 with (go_at_call 45; (with_reducible refine HPT.out.mono ?_); rintro e w9 ⟨rfl, qv, q9, k9, o9⟩)
  have K9 : Hid (Kept [Cq] w8 w9) := Lib.hid (k9.more (fun x hx => by rw [ownB_none] at hx; exact hx))
  have HFI : Hid (Calls Tryz.prog 58 #[.pointer (some ⟨Cq, 0, none⟩)] w9 fun e w' => e = .returned (.tuple #[.string { data := #[120] }, .bool true]) ∧ w9 = w') := Lib.hid (quFirst_any 2 [[120]] qv Cq w9 q9)
  -- what lies there behind all that
  have KA : Hid (Kept [Cn, Cp, Cq] w5 w9) := Lib.hid (((K7.out.more (by simp)).trans' (K8.out.more (by simp))).trans' (K9.out.more (by simp)))
  have A9 : Hid (CwAt WinS.init RttS.zero Ka Ca Da w9) := Lib.hid (A5.out.kept KA.out (by have := HNE.out; simp; omega) (by have := HNE.out; simp; omega) (by have := HNE.out; simp; omega))
  have D9 : Hid (CrAt (tfFirst 100) [(0, 18446744073709551615)] pcFirst 0 K C P B v w9) := Lib.hid (D5.out.kept KA.out (by have := HNE.out; have := HNE2.out; simp; omega) (by have := HNE.out; have := HNE2.out; simp; omega) (by have := HNE.out; have := HNE2.out; simp; omega) (by have := HNE.out; have := HNE2.out; simp; omega) (fun q hq => by have := HNE.out; have := HNE2.out.2.2.2.2 q hq; simp; omega))
  have P9 : Hid (PcAt bp1 Cp w9) := Lib.hid (BlkIs.kept P8.out K9.out (by have := HNE.out; simp; omega))
  have K79 : Hid (Kept [Cp, Cq] w7 w9) := Lib.hid ((K8.out.more (by simp)).trans' (K9.out.more (by simp)))
  have N9 : Hid (NgAt bn1 (.slice none 0 0) Cn w9) := Lib.hid (BlkIs.kept N7.out K79.out (by have := HNE.out; simp; omega))
  have C9 : Hid (w9.cell? ⟨g, 1, none⟩ = some (.string { data := #[1, 3, 2] }) ∧ g < w9.heap.size) := Lib.hid ⟨(K79.out.cellN C7.out.2.1 (by have := HNE.out; have := C7.out; simp; omega)).trans C7.out.1, by have := K79.out.size; have := C7.out; omega⟩
  have HB9 : Hid (Below Cn w w9) := Lib.hid (HB5.out.trans (KA.out.below (by have := HNE.out; omega) (by intro x hx; have := HNE.out; simp at hx; omega)))
  have W1 := Lib.hid (ctWindow_win A9.out)
  have W2 := Lib.hid (ctWindow_rate K w9)
  have W3 := Lib.hid (ctBucket_rate D9.out)
  have W4 := Lib.hid (ctRate_rate D9.out)
  unfold cwV at W1
  unfold crV at W2 W3 W4
  clear q9 k9 o9 HPT HRT P7 P8 K7 K8 K9 N5 P5 Q5 A5 D5 N7 C7 K79 z7
  go_upto_region 15 with (first
    | (go_at_call 58; (with_reducible refine HFI.out.mono ?_); rintro e wx ⟨rfl, rfl⟩)
    | (go_at_call 31; (first
      | ((with_reducible refine W1.out.mono ?_); rintro e wx ⟨rfl, rfl⟩)
      | ((with_reducible refine W2.out.mono ?_); rintro e wx ⟨rfl, rfl⟩)))
    | (go_at_call 32; (with_reducible refine W3.out.mono ?_); rintro e wx ⟨rfl, rfl⟩)
    | (go_at_call 33; (with_reducible refine W4.out.mono ?_); rintro e wx ⟨rfl, rfl⟩))
  have HZV := Lib.hid bv_new
  have HVW := Lib.hid bv_windows
  have HCK := Lib.hid bv_check
  clear HFI W1 W2 W3 W4 KA
  go_upto_region 16 with (refine store_vw rfl _ _ rfl _ Vw.zero bv rfl rfl (HZV.out _) ?_; intro wv hcv hgv)
  obtain ⟨Cv, hCv⟩ : ∃ x, w9.heap.size = x := ⟨_, rfl⟩
  have bxv : Below w9.heap.size w9 wv := (bel_alloc w9 _).grown hgv (by simp) (fun k hk => by cases hk; exact Nat.le_refl _)
  rw [hCv] at hcv hgv
  rw [hCv]
  go_upto_region 17 with (first
    | (refine load_vw rfl _ rfl Cv rfl bv hcv ?_)
    | (go_at_call 59; (with_reducible refine (HVW.out _).mono ?_); rintro e wx ⟨rfl, hbx⟩))
  have bx : Below w9.heap.size w9 wx := bel_trans bxv hbx
  have VX : Hid (BlkIs (vwCells bv) 59 Cv wx ∧ Cn < Cv ∧ Cp < Cv) := Lib.hid ⟨hcv.below hbx, by have := N9.out.lt; omega, by have := P9.out.lt; omega⟩
  have AX : Hid (CwAt WinS.init RttS.zero Ka Ca Da wx) := Lib.hid (A9.out.below bx)
  have DX : Hid (CrAt (tfFirst 100) [(0, 18446744073709551615)] pcFirst 0 K C P B v wx) := Lib.hid (D9.out.kept (Kept.of_below [] bx) (by simp) (by simp) (by simp) (by simp) (fun q hq => by simp))
  have PX : Hid (PcAt bp1 Cp wx) := Lib.hid (BlkIs.below P9.out bx)
  have NX : Hid (NgAt bn1 (.slice none 0 0) Cn wx) := Lib.hid (BlkIs.below N9.out bx)
  have CX : Hid (wx.cell? ⟨g, 1, none⟩ = some (.string { data := #[1, 3, 2] }) ∧ g < wx.heap.size) := Lib.hid ⟨((Kept.of_below [] bx).cellN C9.out.2 (by simp)).trans C9.out.1, by have := bx.size; have := C9.out; omega⟩
  have HBX : Hid (Below Cn w wx) := Lib.hid (HB9.out.trans (bx.mono (by have := HB9.out.size; have := HNEe.out; omega)))
  have hbgx : Hid (∀ n, Calls Tryz.prog 61 #[] (wx.drewN n) fun e w' => e = .returned (.bool true) ∧ Below (wx.drewN n).heap.size (wx.drewN n) w') := Lib.hid (fun n => HBG.out _ (by rw [HNEe.out]; exact HBX.out.trans ((bel_drewN wx n).mono (by have := HBX.out.size; have := HNEe.out; omega))))
  clear A9 D9 P9 N9 C9 HB9 bx bxv hbx hcv hgv hCv HZV HVW HBG
  have HCH : Hid (∀ W, Calls Tryz.prog 60 #[.int .i64 1, .string { data := #[2, 3] }, .string { data := #[3] }] W fun e w' => e = .returned (.tuple #[.string { data := #[3] }, .bool true]) ∧ ∃ n, w' = W.drewN n) := Lib.hid (fun W => by
    have h9 := ftChoose_any 1 [2, 3] [3] (by decide) (by decide) W
    rw [show ftChoose 1 [2, 3] [3] = some [3] by decide] at h9
    exact h9)
  have HDN : Hid (∀ W, NgAt bn1 (.slice none 0 0) Cn W → Calls Tryz.prog 26 #[.pointer (some ⟨Cn, 0, none⟩)] W fun e w' => e = .returned (.bool false) ∧ Below W.heap.size W w') := Lib.hid (fun W hW => ngDone_any bn1 (.slice none 0 0) Cn W hW)
  have HM1 : Hid (∀ W, PcAt bp1 Cp W → Calls Tryz.prog 41 #[.pointer (some ⟨Cp, 0, none⟩), .int .i64 1000000, .int .i64 100] W fun e w' => e = .returned (.bool true) ∧ PcAt (bp1.fill 1000000) Cp w' ∧ Kept [Cp] W w') := Lib.hid (fun W hW => by
    have h9 := paceMay_any bp1 bp1_ok 1000000 100 Cp W hW
    rw [bp1_has] at h9
    exact h9)
  have HM2 : Hid (∀ W, PcAt (bp1.fill 1000000) Cp W → Calls Tryz.prog 41 #[.pointer (some ⟨Cp, 0, none⟩), .int .i64 1000000, .int .i64 101] W fun e w' => e = .returned (.bool false) ∧ Kept [Cp] W w') := Lib.hid (fun W hW => by
    have h9 := paceMay_any (bp1.fill 1000000) (bp1_ok.fill 1000000) 1000000 101 Cp W hW
    rw [bp2_not] at h9
    exact h9.mono fun e w' ⟨a, _, b⟩ => ⟨a, b⟩)
  have HCD : Hid (∀ W, CwAt WinS.init RttS.zero Ka Ca Da W → Calls Tryz.prog 54 #[.pointer (some ⟨Ca, 0, none⟩)] W fun e w' => e = .returned (.int .i64 3) ∧ W = w') := Lib.hid (fun W hW => winCwnd_any WinS.init RttS.zero Ca Da W hW.win)
  have HTR : Hid (∀ W, CrAt (tfFirst 100) [(0, 18446744073709551615)] pcFirst 0 K C P B v W → Calls Tryz.prog 34 #[.pointer (some ⟨C, 0, none⟩)] W fun e w' => e = .returned (.int .u64 6400) ∧ W = w') := Lib.hid (fun W hW => tfRate_any (tfFirst 100) (tfFirst_ok 100 (by decide) (by decide)) _ C P v W hW.tf)
  go_wp2_with (first
    | (go_at_call 60; (with_reducible refine (HCH.out _).mono ?_); rintro e wc ⟨rfl, nc, rfl⟩)
    | (go_at_call 61; (with_reducible refine (hbgx.out _).mono ?_); rintro e w10 ⟨rfl, b10⟩; have b9 : Below wx.heap.size wx w10 := bel_trans (bel_drewN wx nc) b10; have n10 : NgAt bn1 (.slice none 0 0) Cn w10 := BlkIs.below NX.out b9; have cl := ((Kept.of_below [] b9).cellN CX.out.2 (by simp)).trans CX.out.1)
    | (go_at_call 26; (with_reducible refine (HDN.out _ n10).mono ?_); rintro e w11 ⟨rfl, b11⟩; have b91 := bel_trans b9 b11; have p11 : PcAt bp1 Cp w11 := BlkIs.below PX.out b91)
    | (go_at_call 41; (first
      | ((with_reducible refine (HM1.out _ p11).mono ?_); rintro e w12 ⟨rfl, p12, k12⟩; clear HM1)
      | ((with_reducible refine (HM2.out _ p12).mono ?_); rintro e w13 ⟨rfl, k13⟩; clear HM2; have KK : Hid (Kept [Cp] wx w13) := Lib.hid (((Kept.of_below [Cp] b91).trans' k12).trans' k13); have A13 := AX.out.kept KK.out (by have := HNE.out; simp; omega) (by have := HNE.out; simp; omega) (by have := HNE.out; simp; omega); have D13 := DX.out.kept KK.out (by have := HNE.out; have := HNE2.out; simp; omega) (by have := HNE.out; have := HNE2.out; simp; omega) (by have := HNE.out; have := HNE2.out; simp; omega) (by have := HNE.out; have := HNE2.out; simp; omega) (fun q hq => by have := HNE.out; have := HNE2.out.2.2.2.2 q hq; simp; omega))))
    | (go_at_call 54; (with_reducible refine (HCD.out _ A13).mono ?_); rintro e wx ⟨rfl, rfl⟩)
    | (refine load_vw rfl _ rfl Cv rfl bv (VX.out.1.kept KK.out (by have := VX.out; simp; omega)) ?_)
    | (go_at_call 37; (with_reducible refine (HCK.out _).mono ?_); rintro e w14 ⟨rfl, b14⟩)
    | (go_at_call 34; (with_reducible refine (HTR.out _ D13).mono ?_); rintro e wx ⟨rfl, rfl⟩))
  go_ret
  have b13 : Below w.heap.size w w13 := by rw [HNEe.out]; exact HBX.out.trans (KK.out.below (by have := HBX.out.size; have := HNEe.out; omega) (by intro x hx; have := HNE.out; simp at hx; omega))
  exact ⟨rfl, bel_trans b13 b14⟩
end Go.Proofs.YtnhlachoimlhhaaGreatDoor
