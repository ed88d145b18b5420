/-
  The law SumTwo: its pieces.
-/
import Derived.Test.YtdlpapchjjbplaaGreatDoorLawSum2
import Derived.BigRegion
namespace Go.Proofs.YtdlpapchjjbplaaGreatDoor
open Go.ChangeShapes Go.WideShapes Go.ChangeAt Go.RowKit
set_option linter.unusedVariables false

theorem even_part (bl be : ByteArray) (h : Int) (h0 : 0 ≤ h) (hh : h ≤ (bl.size : Int)) (he : bl.extract 0 h.toNat = be) (W : World) :
    (Instr.slice 9 (.string bl) none (some (.int .i64 h)) none).run Tryz.prog W = .ok (.string be) W := by
  rw [run_slice_string_h W 9 bl Tryz.underlying9 .i64 h h0 hh, he]

set_option maxHeartbeats 4000000 in
set_option maxRecDepth 100000 in
theorem sumTwo_none (s : ByteArray) (i j : Int) (hs : s.size ≤ maxLen) (h0 : (s.data.toList.take 200).length < 2) (w : World) :
    Calls Tryz.prog 8 #[.string s, .int .i64 i, .int .i64 j] w fun e w' => e = .returned (.bool true) ∧ Below w.heap.size w w' := by
  obtain ⟨l, hl⟩ : ∃ l, s.data.toList.take 200 = l := ⟨_, rfl⟩
  rw [hl] at h0
  have HT := Lib.hid (fun w => textN_any s 200 200 l rfl (by omega) hs hl w)
  have HS := Lib.hid (fun W H hc => sum1_at W H [255, 255] 0 (by simp) (by decide) hc)
  have hff : str [255, 255] = ⟨#[255, 255]⟩ := rfl
  rw [hff] at HS
  obtain ⟨bl, hbl⟩ : ∃ b, str l = b := ⟨_, rfl⟩
  rw [hbl] at HT
  obtain ⟨N, hN⟩ : ∃ N : Int, (bl.size : Int) = N := ⟨_, rfl⟩
  have hN2 : 0 ≤ N ∧ N < 2 := by rw [← hN, ← hbl, str_size]; omega
  have hq : N.tdiv 2 = 0 := by rw [Int.tdiv_eq_ediv_of_nonneg hN2.1]; omega
  have hq2 : N / 2 = 0 := by omega
  have hsl := even_part bl (str []) 0 (by omega) (by omega) (by rw [show (0 : Int).toNat = 0 from rfl, ByteArray.extract_same]; rfl)
  have hz : ((str []).size : Int) = 0 := rfl
  generalize str [] = be at *
  have HBE := Lib.hid hz
  clear hl hs h0 hbl hff
  go_enter Tryz.func8, Tryz.ntmps8
  go_wp2_with (first
    | (go_at_call 15; refine (begun_any _).mono ?_; rintro e w0 ⟨rfl, hb0⟩)
    | (go_at_call 16; (with_reducible refine (HT.out _).mono ?_); rintro e w1 ⟨rfl, rfl⟩)
    | (go_at_call 19; refine (HS.out _ _ ?_).mono ?_; exact heap_alloc_new _ _; rintro e w1 ⟨rfl, rfl⟩))
  all_goals go_ret
  all_goals exact ⟨rfl, bel_trans hb0 (bel_alloc _ _)⟩



theorem sumFits1_any (w : World) (H : Nat) (hH : H = w.heap.size) (l : List UInt8) (x : Nat) (hl : l.length ≤ 1000000) (hx : M.sum16 l = x) :
    Calls Tryz.prog 22 #[.int .i64 x, .slice (some ⟨H, 0, none⟩) 1 1] (w.alloc (.cells #[.string (str l)] 9)) fun e w' => e = .returned (.bool true) ∧ w.alloc (.cells #[.string (str l)] 9) = w' := by
  subst hH
  have hj : M.joined [str l] = l := by simp [M.joined, str]
  have h := sumFits_at (x : Int) (strs_new w [str l] (by simp) (by simp) (by intro s hs; simp at hs; subst hs; rw [str_size]; unfold maxLen; omega) (by rw [hj]; omega))
  have hf : fitsB (x : Int) l = true := by
    unfold fitsB
    have := sum_lim l
    have h2 := M.fits_own l
    rw [hx] at this h2
    rw [Int.toNat_natCast, decide_eq_true_iff]
    exact ⟨by omega, by omega, h2⟩
  rw [hj, hf] at h
  exact h

theorem BRow.at {w : World} {g : Nat} {l : List UInt8} (h : BRow w g l) (p c : Nat) (hp : p < l.length) (hc : (l.getD p 0).toNat = c) : w.cell? ⟨g, p, none⟩ = some (.int .u8 c) ∧ w.frozen? ⟨g, p, none⟩ = false := by
  refine ⟨?_, h.free p hp⟩
  rw [h.cell p hp]
  have e : l[p] = l.getD p 0 := by rw [List.getD_eq_getElem?_getD, List.getElem?_eq_getElem hp]; rfl
  rw [e, ← hc]; rfl
theorem BRow.set2 {w : World} {g : Nat} {l : List UInt8} (h : BRow w g l) (p q c d : Nat) (hc : (l.getD q 0).toNat = c) (hd : (l.getD p 0).toNat = d) :
    BRow ((w.setCell ⟨g, p, none⟩ (.int .u8 c)).setCell ⟨g, q, none⟩ (.int .u8 d)) g ((l.set p (l.getD q 0)).set q (l.getD p 0)) :=
  (h.set p (l.getD q 0) c (by rw [hc])).set q (l.getD p 0) d (by rw [hd])
theorem set_far {w : World} {g a b : Nat} {x y : Value} (hb : w.cell? ⟨g, b, none⟩ = some y) (fb : w.frozen? ⟨g, b, none⟩ = false) : ∃ z, (w.setCell ⟨g, a, none⟩ x).cell? ⟨g, b, none⟩ = some z ∧ (w.setCell ⟨g, a, none⟩ x).frozen? ⟨g, b, none⟩ = false := by
  obtain ⟨z, hz⟩ := cell?_setCell_some (w := w) (p := ⟨g, a, none⟩) (x := x) (q := ⟨g, b, none⟩) (v := y) hb
  exact ⟨z, hz, by rw [← fb]; exact World.frozen?_setCell _ _ _ _⟩

set_option maxHeartbeats 8000000 in
set_option maxRecDepth 100000 in
theorem sumTwo_some (s : ByteArray) (i j : Int) (hs : s.size ≤ maxLen) (h0 : ¬ (s.data.toList.take 200).length < 2) (i1 : -9223372036854775808 ≤ i) (i2 : i ≤ 9223372036854775807) (j1 : -9223372036854775808 ≤ j) (j2 : j ≤ 9223372036854775807) (w : World) :
    Calls Tryz.prog 8 #[.string s, .int .i64 i, .int .i64 j] w fun e w' => e = .returned (.bool true) ∧ Below w.heap.size w w' := by
  obtain ⟨l, hl, hll⟩ : ∃ l, s.data.toList.take 200 = l ∧ l.length ≤ 200 := ⟨_, rfl, by simp; omega⟩
  rw [hl] at h0
  have HT := Lib.hid (fun w => textN_any s 200 200 l rfl (by omega) hs hl w)
  -- the even part
  obtain ⟨N, hN⟩ : ∃ N : Nat, N = l.length / 2 := ⟨_, rfl⟩
  obtain ⟨m, hm⟩ : ∃ m, m = l.take (2 * N) := ⟨_, rfl⟩
  have hml : m.length = 2 * N := by rw [hm, List.length_take]; omega
  have hN1 : 1 ≤ N ∧ N ≤ 100 := by omega
  obtain ⟨bl, hbl⟩ : ∃ b, str l = b := ⟨_, rfl⟩
  obtain ⟨be, hbe⟩ : ∃ b, str m = b := ⟨_, rfl⟩
  obtain ⟨L, hL⟩ : ∃ L : Int, (bl.size : Int) = L := ⟨_, rfl⟩
  have hL1 : (l.length : Int) = L := by rw [← hL, ← hbl, str_size]
  obtain ⟨d, hd⟩ : ∃ d : Int, d = (N : Int) := ⟨_, rfl⟩
  have hL2 : L / 2 = d := by omega
  have hL3 : 0 ≤ L ∧ L ≤ 200 := by omega
  have hsl := even_part bl be (d * 2) (by omega) (by omega) (by
    rw [← hbl, ← hbe, hm, show (d * 2).toNat = 2 * N by omega, str_extract, List.drop_zero])
  obtain ⟨E, hE⟩ : ∃ E : Int, (be.size : Int) = E := ⟨_, rfl⟩
  have hE1 : E / 2 = d := by rw [← hE, ← hbe, str_size, hml]; omega
  have hE3 : 0 ≤ E ∧ E ≤ 200 := by rw [← hE, ← hbe, str_size, hml]; omega
  have hd1 : 1 ≤ d ∧ d ≤ 100 := by omega
  have hL4 : L.tdiv 2 = d := by rw [Int.tdiv_eq_ediv_of_nonneg hL3.1, hL2]
  have hE4 : E.tdiv 2 = d := by rw [Int.tdiv_eq_ediv_of_nonneg hE3.1, hE1]
  have hdz : (d == 0) = false := by rw [beq_eq_false_iff_ne]; omega
  -- the places
  obtain ⟨a1, a2⟩ := tmod_lim i d (by omega)
  obtain ⟨k1, hk1⟩ : ∃ k, i.tmod d = k := ⟨_, rfl⟩
  rw [hk1] at a1 a2
  have a5 : 0 ≤ (k1 + d).tmod d := Int.tmod_nonneg _ (by omega)
  obtain ⟨a3, a4⟩ := tmod_lim (k1 + d) d (by omega)
  obtain ⟨q, hq⟩ : ∃ q, (k1 + d).tmod d = q := ⟨_, rfl⟩
  rw [hq] at a3 a4 a5
  obtain ⟨c1, c2⟩ := tmod_lim j d (by omega)
  obtain ⟨k2, hk2⟩ : ∃ k, j.tmod d = k := ⟨_, rfl⟩
  rw [hk2] at c1 c2
  have c5 : 0 ≤ (k2 + d).tmod d := Int.tmod_nonneg _ (by omega)
  obtain ⟨c3, c4⟩ := tmod_lim (k2 + d) d (by omega)
  obtain ⟨r, hr⟩ : ∃ r, (k2 + d).tmod d = r := ⟨_, rfl⟩
  rw [hr] at c3 c4 c5
  obtain ⟨p, hp⟩ : ∃ p : Nat, 2 * q = (p : Int) := ⟨(2 * q).toNat, by omega⟩
  obtain ⟨t, ht⟩ : ∃ t : Nat, 2 * r = (t : Int) := ⟨(2 * r).toNat, by omega⟩
  obtain ⟨p', hp'⟩ : ∃ x : Nat, (p : Int) + 1 = (x : Int) := ⟨p + 1, by omega⟩
  obtain ⟨t', ht'⟩ : ∃ x : Nat, (t : Int) + 1 = (x : Int) := ⟨t + 1, by omega⟩
  have ep : p = 2 * q.toNat := by omega
  have et : t = 2 * r.toNat := by omega
  have ep' : p' = 2 * q.toNat + 1 := by omega
  have et' : t' = 2 * r.toNat + 1 := by omega
  obtain ⟨M0, hM⟩ : ∃ M0 : Nat, m.length = M0 := ⟨_, rfl⟩
  have lp : p < M0 := by omega
  have lt : t < M0 := by omega
  have lp' : p' < M0 := by omega
  have lt' : t' < M0 := by omega
  obtain ⟨m2, hm2⟩ : ∃ m2, m2 = (m.set p (m.getD t 0)).set t (m.getD p 0) := ⟨_, rfl⟩
  obtain ⟨m3, hm3⟩ : ∃ m3, m3 = (m2.set p' (m2.getD t' 0)).set t' (m2.getD p' 0) := ⟨_, rfl⟩
  have e2 : m2.getD t' 0 = m.getD t' 0 := by
    rw [hm2, M.getD_set _ _ _ _ (by simp; omega), if_neg (by omega), M.getD_set _ _ _ _ (by omega), if_neg (by omega)]
  have e3 : m2.getD p' 0 = m.getD p' 0 := by
    rw [hm2, M.getD_set _ _ _ _ (by simp; omega), if_neg (by omega), M.getD_set _ _ _ _ (by omega), if_neg (by omega)]
  have hsw : m3 = M.swapW m q.toNat r.toNat := by
    rw [hm3, e2, e3, hm2]; unfold M.swapW; rw [← ep, ← et, show p + 1 = p' by omega, show t + 1 = t' by omega]
  have hl2 : m2.length = M0 := by rw [hm2]; simpa using hM
  have hl3 : m3.length = M0 := by rw [hm3]; simpa using hl2
  obtain ⟨x, hx⟩ : ∃ x, M.sum16 m = x := ⟨_, rfl⟩
  have hx3 : M.sum16 m3 = x := by rw [hsw, M.sum_swap _ _ _ (by omega) (by omega), hx]
  have HS1 := Lib.hid (fun w H hH => sum1_any w H hH m x (by omega) hx)
  have HS2 := Lib.hid (fun w H hH => sum1_any w H hH m3 x (by omega) hx3)
  have HF := Lib.hid (fun w H hH => sumFits1_any w H hH m x (by omega) hx)
  have HO := Lib.hid (fun (hx5 : ¬ x = 65535) w H hH => sum2_any w H hH m [255, 255] x (by omega) (by simp) (by
    rcases M.sum_ones m (by omega) with h | h
    · omega
    · rw [h, hx]))
  rw [show str [255, 255] = ⟨#[255, 255]⟩ from rfl] at HO
  have HCR := Lib.hid (fun w => conv_row w m)
  obtain ⟨xa, hxa⟩ : ∃ x, (m.getD p 0).toNat = x := ⟨_, rfl⟩
  obtain ⟨xb, hxb⟩ : ∃ x, (m.getD t 0).toNat = x := ⟨_, rfl⟩
  obtain ⟨ya, hya⟩ : ∃ x, (m2.getD p' 0).toNat = x := ⟨_, rfl⟩
  obtain ⟨yb, hyb⟩ : ∃ x, (m2.getD t' 0).toNat = x := ⟨_, rfl⟩
  have HA1 := Lib.hid (fun (W : World) g (h : BRow W g m) => h.at p xa (by omega) hxa)
  have HA2 := Lib.hid (fun (W : World) g (h : BRow W g m) => h.at t xb (by omega) hxb)
  have HA3 := Lib.hid (fun (W : World) g (h : BRow W g m) => h.set2 p t xb xa hxb hxa)
  have HB1 := Lib.hid (fun (W : World) g (h : BRow W g m2) => h.at p' ya (by omega) hya)
  have HB2 := Lib.hid (fun (W : World) g (h : BRow W g m2) => h.at t' yb (by omega) hyb)
  have HB3 := Lib.hid (fun (W : World) g (h : BRow W g m2) => h.set2 p' t' yb ya hyb hya)
  rw [← hm2] at HA3
  rw [← hm3] at HB3
  have HCV : Hid (∀ (W : World) (g cap : Nat), BRow W g m3 → (convert 34 9 (.slice (some ⟨g, 0, none⟩) M0 cap)).run Tryz.prog W = .ok (.string (str m3)) W) := Lib.hid (fun W g cap h => by have e := h.conv cap; rwa [hl3] at e)
  obtain ⟨bs, hbs⟩ : ∃ b, str m3 = b := ⟨_, rfl⟩
  rw [hbl] at HT
  rw [hbe] at HS1 HF HO HCR
  rw [hbs] at HS2 HCV
  rw [hM] at HCR
  have hEM : E = (M0 : Int) := by rw [← hE, ← hbe, str_size, hM]
  clear hl hs h0 hll hbl hbe hbs hN hm hml hL1 hsw e2 e3 ep et ep' et' hm2 hm3 hl2 hl3 hx hx3 hxa hxb hya hyb hEM hM hd
  go_enter Tryz.func8, Tryz.ntmps8
  go_upto_region 9 with (first
    | (go_at_call 15; refine (begun_any _).mono ?_; rintro e w0 ⟨rfl, hb0⟩)
    | (go_at_call 16; (with_reducible refine (HT.out _).mono ?_); rintro e w1 ⟨rfl, rfl⟩))
  clear hL2 hL4 hE1 hE4 hsl hL hE
  go_quiet (fail)
  go_upto_region 10 with fail
  have hb8 : Below w.heap.size w (w0.drewN nq) := bel_trans hb0 (bel_drewN _ _)
  clear hb0 hk1 hk2 hq hr a1 a2 a3 c1 c2 c3 hdz
  generalize w0.drewN nq = W8 at *
  obtain ⟨cap, o, hcv, hrow⟩ := HCR.out W8
  go_upto_region 11 with fail
  have hb9 : Below w.heap.size w (W8.alloc o).drew := bel_trans hb8 (bel_trans (bel_alloc W8 o) (bel_drewN _ 1))
  have hrow : BRow (W8.alloc o).drew W8.heap.size m := hrow.same rfl
  have hg9 : w.heap.size ≤ W8.heap.size := hb8.size
  clear hcv hb8
  generalize W8.heap.size = g at *
  generalize (W8.alloc o).drew = W9 at *
  obtain ⟨f1, f2⟩ := HA1.out W9 g hrow
  obtain ⟨f3, f4⟩ := HA2.out W9 g hrow
  obtain ⟨z1, f5, f6⟩ := set_far (a := p) (x := .int .u8 (xb : Int)) f3 f4
  have hlt := hrow.lt
  have HB9 := Lib.hid hb9
  have HRW := Lib.hid hrow
  clear hb9 hrow
  go_region
  have hb10 : Below w.heap.size w ((W9.setCell ⟨g, p, none⟩ (.int .u8 (xb : Int))).setCell ⟨g, t, none⟩ (.int .u8 (xa : Int))).drew := ((HB9.out.setCell (p := ⟨g, p, none⟩) hg9 _).setCell (p := ⟨g, t, none⟩) hg9 _).drew
  have hr10 : BRow ((W9.setCell ⟨g, p, none⟩ (.int .u8 (xb : Int))).setCell ⟨g, t, none⟩ (.int .u8 (xa : Int))).drew g m2 := (HA3.out W9 g HRW.out).same rfl
  clear f1 f2 f3 f4 f5 f6 hlt HB9 HRW
  go_upto_region 12 with fail
  generalize ((W9.setCell ⟨g, p, none⟩ (.int .u8 (xb : Int))).setCell ⟨g, t, none⟩ (.int .u8 (xa : Int))).drew = WA at *
  obtain ⟨f1, f2⟩ := HB1.out WA g hr10
  obtain ⟨f3, f4⟩ := HB2.out WA g hr10
  obtain ⟨z2, f5, f6⟩ := set_far (a := p') (x := .int .u8 (yb : Int)) f3 f4
  have hlt := hr10.lt
  have HBA := Lib.hid hb10
  have HRA := Lib.hid hr10
  clear hb10 hr10
  go_region
  have hb11 : Below w.heap.size w ((WA.setCell ⟨g, p', none⟩ (.int .u8 (yb : Int))).setCell ⟨g, t', none⟩ (.int .u8 (ya : Int))).drew := ((HBA.out.setCell (p := ⟨g, p', none⟩) hg9 _).setCell (p := ⟨g, t', none⟩) hg9 _).drew
  have hr11 : BRow ((WA.setCell ⟨g, p', none⟩ (.int .u8 (yb : Int))).setCell ⟨g, t', none⟩ (.int .u8 (ya : Int))).drew g m3 := (HB3.out WA g HRA.out).same rfl
  clear f1 f2 f3 f4 f5 f6 hlt HBA HRA
  go_upto_region 13 with fail
  generalize ((WA.setCell ⟨g, p', none⟩ (.int .u8 (yb : Int))).setCell ⟨g, t', none⟩ (.int .u8 (ya : Int))).drew = WB at *
  have cv1 := fun o => HCV.out (WB.alloc o) g cap (hr11.alloc o)
  have HBB := Lib.hid hb11
  clear hb11 hr11
  by_cases hx5 : x = 65535
  · have hx6 : ((x : Int) == 65535) = true := by rw [beq_iff_eq]; omega
    clear hx5
    go_wp2_with (first
      | (go_at_call 19; (first | (with_reducible refine (HS1.out _ _ (by first | rfl | simp)).mono ?_) | (with_reducible refine (HS2.out _ _ (by first | rfl | simp)).mono ?_)); rintro e w1 ⟨rfl, rfl⟩)
      | (go_at_call 22; (with_reducible refine (HF.out _ _ (by first | rfl | simp)).mono ?_); rintro e w1 ⟨rfl, rfl⟩))
    all_goals go_ret
    all_goals exact ⟨rfl, bel_trans HBB.out (bel_trans (bel_alloc _ _) (bel_trans (bel_alloc _ _) (bel_alloc _ _)))⟩
  · have hx6 : ((x : Int) == 65535) = false := by rw [beq_eq_false_iff_ne]; omega
    go_wp2_with (first
      | (go_at_call 19; (first | (with_reducible refine (HS1.out _ _ (by first | rfl | simp)).mono ?_) | (with_reducible refine (HS2.out _ _ (by first | rfl | simp)).mono ?_) | (with_reducible refine (HO.out hx5 _ _ (by first | rfl | simp)).mono ?_)); rintro e w1 ⟨rfl, rfl⟩)
      | (go_at_call 22; (with_reducible refine (HF.out _ _ (by first | rfl | simp)).mono ?_); rintro e w1 ⟨rfl, rfl⟩))
    all_goals go_ret
    all_goals exact ⟨rfl, bel_trans HBB.out (bel_trans (bel_alloc _ _) (bel_trans (bel_alloc _ _) (bel_trans (bel_alloc _ _) (bel_alloc _ _))))⟩
end Go.Proofs.YtdlpapchjjbplaaGreatDoor
