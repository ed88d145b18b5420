/-
  What head.Get answers where nothing is wrong.
-/
import Derived.Test.YtdlpapchjjbplaaGreatDoorHeadK
namespace Go.Proofs.YtdlpapchjjbplaaGreatDoor
open Go.ChangeShapes Go.WideShapes Go.ChangeAt Go.RowKit
set_option linter.unusedVariables false

def hd0 (l : List UInt8) : Hd := { Hd.zero with src := (beNum (l.take 2) : Nat), dst := (beNum ((l.drop 2).take 2) : Nat), off := (beNum ((l.drop 4).take 1) : Nat), cc := (beNum ((l.drop 5).take 1) / 16 : Nat), cs := (beNum ((l.drop 5).take 1) % 16 : Nat), sum := (beNum ((l.drop 6).take 2) : Nat), type := (beNum ((l.drop 8).take 1) / 2 % 16 : Nat), x := decide (beNum ((l.drop 8).take 1) % 2 = 1) }
def hd1 (l : List UInt8) : Hd := { hd0 l with seq := seqOf (hd0 l) (l.drop 9), ack := ackOf (hd0 l) (l.drop 9) }
/-- The head of bytes of which nothing is wrong. -/
def getHd (l : List UInt8) : Hd := (hd1 l).withExtras (l.drop (9 + numsLen (hd0 l)))

theorem size_parts {h : Hd} (hz : sizeN h.type h.x ≠ 0) : sizeN h.type h.x = 9 + numsLen h + extraLen h := by
  rcases type_cases h.type with h' | h' | h' | h' | h' | h' | h' | h' | h' | h' | h' | h'
  · exact absurd (sizeN_out h.x (.inl h')) hz
  · exact absurd (sizeN_out h.x (.inr h')) hz
  all_goals
    unfold numsLen extraLen
    rw [h'] at hz ⊢
    generalize h.x = x at *
    cases x <;> revert hz <;> decide

theorem byteAt_num (l : List UInt8) (i : Nat) (h : i < l.length) : beNum ((l.drop i).take 1) = byteAt l i := by
  have e : (l.drop i).take 1 = [l[i]] := by rw [List.drop_eq_getElem_cons h]; rfl
  rw [e]
  simp [beNum, byteAt, h]

set_option maxHeartbeats 4000000 in
theorem get_yes (l : List UInt8) (hl : l.length ≤ 9223372036854775807) (w : World) (hf : faultN l = 0) :
    Calls Tryz.prog 29 #[.string (str l)] w fun e w' => e = .returned (.tuple #[(getHd l).val, .int .i64 0]) ∧ Below w.heap.size w w' := by
  have HF := Lib.hid (fun w => fault_any l hl w)
  rw [hf] at HF
  have hparts : 12 ≤ l.length ∧ sizeN (hd0 l).type (hd0 l).x ≠ 0 ∧ sizeN (hd0 l).type (hd0 l).x ≤ l.length := by
    unfold faultN at hf
    by_cases h1 : l.length < 12
    · rw [if_pos h1] at hf; cases hf
    rw [if_neg h1] at hf
    have e : beNum ((l.drop 8).take 1) = byteAt l 8 := byteAt_num l 8 (by omega)
    have e1 : (hd0 l).type = (hType l : Nat) := by unfold hd0 hType; simp only [e]
    have e2 : (hd0 l).x = hX l := by unfold hd0 hX; simp only [e]
    rw [e1, e2]
    by_cases h2 : 9 < hType l
    · rw [if_pos h2] at hf; cases hf
    rw [if_neg h2] at hf
    by_cases h3 : sizeN (hType l) (hX l) = 0
    · rw [if_pos h3] at hf; cases hf
    rw [if_neg h3] at hf
    by_cases h4 : l.length < sizeN (hType l) (hX l)
    · rw [if_pos h4] at hf; cases hf
    exact ⟨by omega, h3, by omega⟩
  obtain ⟨hl12, hz, hzl⟩ := hparts
  have hsp := size_parts hz
  rw [hsp] at hzl
  have HZL := Lib.hid hzl
  clear hsp hz hzl hf
  have hstr : ∃ s, str l = s := ⟨_, rfl⟩
  obtain ⟨s, hs⟩ := hstr
  have HS := Lib.hid hs
  rw [hs] at HF ⊢
  clear hs
  go_enter Tryz.func29, Tryz.ntmps29
  go_upto_region 6 with (go_at_call 61; refine (HF.out _).mono ?_; rintro e w1 ⟨rfl, n, rfl⟩)
  have hz : Hd.zero.box = Obj.cells #[Value.int IntKind.i64 0, Value.int IntKind.i64 0, Value.int IntKind.i64 0, Value.int IntKind.i64 0, Value.int IntKind.i64 0, Value.int IntKind.i64 0, Value.int IntKind.i64 0, Value.bool false, Value.int IntKind.u64 0, Value.int IntKind.u64 0, Value.int IntKind.u32 0, Value.int IntKind.i64 0, Value.int IntKind.u8 0, Value.int IntKind.u8 0, Value.int IntKind.u8 0] 39 := rfl
  have hfacts : ∃ W0, W0 = (((w.alloc (Obj.cells #[Value.int IntKind.i64 0, Value.int IntKind.i64 0, Value.int IntKind.i64 0, Value.int IntKind.i64 0, Value.int IntKind.i64 0, Value.int IntKind.i64 0, Value.int IntKind.i64 0, Value.bool false, Value.int IntKind.u64 0, Value.int IntKind.u64 0, Value.int IntKind.u32 0, Value.int IntKind.i64 0, Value.int IntKind.u8 0, Value.int IntKind.u8 0, Value.int IntKind.u8 0] 39)).drewN n).alloc (Obj.cells #[Value.int IntKind.i64 0, Value.int IntKind.i64 0, Value.int IntKind.i64 0, Value.int IntKind.i64 0, Value.int IntKind.i64 0, Value.int IntKind.i64 0, Value.int IntKind.i64 0, Value.bool false, Value.int IntKind.u64 0, Value.int IntKind.u64 0, Value.int IntKind.u32 0, Value.int IntKind.i64 0, Value.int IntKind.u8 0, Value.int IntKind.u8 0, Value.int IntKind.u8 0] 39)).alloc (Obj.cells #[Value.string s] 88) ∧ RdAt l (w.heap.size + 1 + 1) W0 ∧ HdBlk Hd.zero (w.heap.size + 1) W0 ∧ HdBlk Hd.zero w.heap.size W0 ∧ Below w.heap.size w W0 := by
    rw [← hz]
    have s1 : ((w.alloc Hd.zero.box).drewN n).heap.size = w.heap.size + 1 := by show (w.alloc Hd.zero.box).heap.size = _; simp
    have s2 : (((w.alloc Hd.zero.box).drewN n).alloc Hd.zero.box).heap.size = w.heap.size + 1 + 1 := by simp
    have a1 : HdBlk Hd.zero w.heap.size ((w.alloc Hd.zero.box).drewN n) := heap_alloc_new w _
    have a2 : HdBlk Hd.zero (w.heap.size + 1) (((w.alloc Hd.zero.box).drewN n).alloc Hd.zero.box) := by
      have := heap_alloc_new ((w.alloc Hd.zero.box).drewN n) Hd.zero.box
      rwa [s1] at this
    have a3 := heap_alloc_new (((w.alloc Hd.zero.box).drewN n).alloc Hd.zero.box) (Obj.cells #[Value.string s] 88)
    rw [s2] at a3
    refine ⟨_, rfl, ?_, a2.other (World.grownBy_alloc _ _ none) (by simp), (a1.other (World.grownBy_alloc _ _ none) (by simp)).other (World.grownBy_alloc _ _ none) (by simp), ?_⟩
    · unfold RdAt; rw [HS.out]; exact a3
    · exact bel_trans (bel_trans (bel_trans (bel_alloc w Hd.zero.box) (bel_drewN _ n)) (bel_alloc _ _)) (bel_alloc _ _)
  obtain ⟨W0, hW, hr0, hb0, hc0, hbel⟩ := hfacts
  rw [← hW]
  have hRB : w.heap.size + 1 + 1 ≠ w.heap.size + 1 := by omega
  have hCR : w.heap.size ≠ w.heap.size + 1 + 1 := by omega
  have hCB : w.heap.size ≠ w.heap.size + 1 := by omega
  have hwR : w.heap.size ≤ w.heap.size + 1 + 1 := by omega
  have hwB : w.heap.size ≤ w.heap.size + 1 := by omega
  have HBEL := Lib.hid hbel; have HWR := Lib.hid hwR; have HWB := Lib.hid hwB
  clear hW hz hbel hwR hwB
  generalize w.heap.size + 1 + 1 = R at *
  generalize w.heap.size + 1 = B at *
  obtain ⟨C, hCC⟩ : ∃ C, C = w.heap.size := ⟨_, rfl⟩
  rw [← hCC] at hc0 hCR hCB HBEL HWR HWB ⊢
  have HCC := Lib.hid hCC; clear hCC
  have HR0 := Lib.hid hr0; have HB0 := Lib.hid hb0; have HC0 := Lib.hid hc0; have T0 := Lib.hid (Two.refl W0 R B)
  clear hr0 hb0 hc0
  go_wp2_with fail
  refine (takeInt_rd R l 2 _ (by omega) (by omega) (by omega) HR0.out).mono ?_
  rintro e W1 ⟨rfl, hr, hg⟩
  have hb := HB0.out.other hg (by simp; omega)
  have hc := HC0.out.other hg (by simp; omega)
  have d := hb.at_.1
  have f := hb.free 0
  have t := T0.out.grown hg (.inr (.inl rfl))
  generalize hv : beNum (l.take 2) = v0 at *
  have HV0 := Lib.hid hv
  have HR := Lib.hid hr; have HB := Lib.hid hb; have HC := Lib.hid hc; have T := Lib.hid t
  clear hr hb hc t hg hv
  go_upto_region 7 with fail
  have hb1 := HB.out.set { Hd.zero with src := (v0 : Int) } 0 (.int .i64 v0) rfl
  have hr1 := HR.out.other (grown_set W1 B 0 (.int .i64 v0)) (by simp; exact hRB)
  have hc1 := HC.out.other (grown_set W1 B 0 (.int .i64 v0)) (by simp; exact hCB)
  have t1 := T.out.grown (grown_set W1 B 0 (.int .i64 v0)) (.inr (.inr rfl))
  generalize W1.setCell ⟨B, 0, none⟩ (.int .i64 v0) = W2 at *
  have HR1 := Lib.hid hr1; have HB1 := Lib.hid hb1; have HC1 := Lib.hid hc1; have T1 := Lib.hid t1
  clear HR HB HC T hb1 hr1 hc1 t1 d f
  go_wp2_with fail
  refine (takeInt_rd R (l.drop 2) 2 _ (by rw [List.length_drop]; omega) (by omega) (by rw [List.length_drop]; omega) HR1.out).mono ?_
  rintro e W3 ⟨rfl, hr, hg⟩
  rw [List.drop_drop] at hr
  have hb := HB1.out.other hg (by simp; omega)
  have hc := HC1.out.other hg (by simp; omega)
  have d := hb.at_.2.1
  have f := hb.free 1
  have t := T1.out.grown hg (.inr (.inl rfl))
  generalize hv : beNum ((l.drop 2).take 2) = v1 at *
  have HV1 := Lib.hid hv
  have HR := Lib.hid hr; have HB := Lib.hid hb; have HC := Lib.hid hc; have T := Lib.hid t
  clear hr hb hc t hg hv
  go_upto_region 8 with fail
  have hb1 := HB.out.set { Hd.zero with src := (v0 : Int), dst := (v1 : Int) } 1 (.int .i64 v1) rfl
  have hr1 := HR.out.other (grown_set W3 B 1 (.int .i64 v1)) (by simp; exact hRB)
  have hc1 := HC.out.other (grown_set W3 B 1 (.int .i64 v1)) (by simp; exact hCB)
  have t1 := T.out.grown (grown_set W3 B 1 (.int .i64 v1)) (.inr (.inr rfl))
  generalize W3.setCell ⟨B, 1, none⟩ (.int .i64 v1) = W4 at *
  have HR2 := Lib.hid hr1; have HB2 := Lib.hid hb1; have HC2 := Lib.hid hc1; have T2 := Lib.hid t1
  clear HR HB HC T hb1 hr1 hc1 t1 d f
  go_wp2_with fail
  refine (takeInt_rd R (l.drop 4) 1 _ (by rw [List.length_drop]; omega) (by omega) (by rw [List.length_drop]; omega) HR2.out).mono ?_
  rintro e W5 ⟨rfl, hr, hg⟩
  rw [List.drop_drop] at hr
  have hb := HB2.out.other hg (by simp; omega)
  have hc := HC2.out.other hg (by simp; omega)
  have d := hb.at_.2.2.1
  have f := hb.free 2
  have t := T2.out.grown hg (.inr (.inl rfl))
  generalize hv : beNum ((l.drop 4).take 1) = v2 at *
  have HV2 := Lib.hid hv
  have HR := Lib.hid hr; have HB := Lib.hid hb; have HC := Lib.hid hc; have T := Lib.hid t
  clear hr hb hc t hg hv
  go_upto_region 9 with fail
  have hb1 := HB.out.set { Hd.zero with src := (v0 : Int), dst := (v1 : Int), off := (v2 : Int) } 2 (.int .i64 v2) rfl
  have hr1 := HR.out.other (grown_set W5 B 2 (.int .i64 v2)) (by simp; exact hRB)
  have hc1 := HC.out.other (grown_set W5 B 2 (.int .i64 v2)) (by simp; exact hCB)
  have t1 := T.out.grown (grown_set W5 B 2 (.int .i64 v2)) (.inr (.inr rfl))
  generalize W5.setCell ⟨B, 2, none⟩ (.int .i64 v2) = W6 at *
  have HR3 := Lib.hid hr1; have HB3 := Lib.hid hb1; have HC3 := Lib.hid hc1; have T3 := Lib.hid t1
  clear HR HB HC T hb1 hr1 hc1 t1 d f
  go_wp2_with fail
  refine (takeInt_rd R (l.drop 5) 1 _ (by rw [List.length_drop]; omega) (by omega) (by rw [List.length_drop]; omega) HR3.out).mono ?_
  rintro e W7 ⟨rfl, hr, hg⟩
  rw [List.drop_drop] at hr
  have hb := HB3.out.other hg (by simp; omega)
  have hc := HC3.out.other hg (by simp; omega)
  have d1 := hb.at_.2.2.2.1
  have d2 := hb.at_.2.2.2.2.1
  have f1 := hb.free 3
  have f2 := hb.free 4
  have t := T3.out.grown hg (.inr (.inl rfl))
  have hv255 : beNum ((l.drop 5).take 1) ≤ 255 := by have := one_byte (l.drop 5); omega
  have HH := Lib.hid (fun w => halves_any (beNum ((l.drop 5).take 1)) hv255 w)
  generalize hva : beNum ((l.drop 5).take 1) / 16 = va at *
  generalize hvb : beNum ((l.drop 5).take 1) % 16 = vb at *
  have HVA := Lib.hid hva; have HVB := Lib.hid hvb; clear hva hvb
  have HR := Lib.hid hr; have HB := Lib.hid hb; have HC := Lib.hid hc; have T := Lib.hid t
  clear hr hb hc t hg
  go_upto_region 10 with (go_at_call 63; refine (HH.out _).mono ?_; rintro e w1 ⟨rfl, rfl⟩)
  have hb1 := (HB.out.set { Hd.zero with src := (v0 : Int), dst := (v1 : Int), off := (v2 : Int), cc := (va : Int) } 3 (.int .i64 va) rfl).set { Hd.zero with src := (v0 : Int), dst := (v1 : Int), off := (v2 : Int), cc := (va : Int), cs := (vb : Int) } 4 (.int .i64 vb) rfl
  have g2 := (grown_set W7 B 3 (.int .i64 va)).trans (grown_set _ B 4 (.int .i64 vb))
  have hr1 := HR.out.other g2 (by simp; exact hRB)
  have hc1 := HC.out.other g2 (by simp; exact hCB)
  have t1 := T.out.grown g2 (.inr (.inr rfl))
  generalize (W7.setCell ⟨B, 3, none⟩ (.int .i64 va)).setCell ⟨B, 4, none⟩ (.int .i64 vb) = W8 at *
  have HR4 := Lib.hid hr1; have HB4 := Lib.hid hb1; have HC4 := Lib.hid hc1; have T4 := Lib.hid t1
  clear HR HB HC T hb1 hr1 hc1 t1 d1 d2 f1 f2 g2 HH hv255
  go_wp2_with fail
  refine (takeInt_rd R (l.drop 6) 2 _ (by rw [List.length_drop]; omega) (by omega) (by rw [List.length_drop]; omega) HR4.out).mono ?_
  rintro e W9 ⟨rfl, hr, hg⟩
  rw [List.drop_drop] at hr
  have hb := HB4.out.other hg (by simp; omega)
  have hc := HC4.out.other hg (by simp; omega)
  have d := hb.at_.2.2.2.2.2.1
  have f := hb.free 5
  have t := T4.out.grown hg (.inr (.inl rfl))
  generalize hv : beNum ((l.drop 6).take 2) = v4 at *
  have HV4 := Lib.hid hv
  have HR := Lib.hid hr; have HB := Lib.hid hb; have HC := Lib.hid hc; have T := Lib.hid t
  clear hr hb hc t hg hv
  go_upto_region 11 with fail
  have hb1 := HB.out.set { Hd.zero with src := (v0 : Int), dst := (v1 : Int), off := (v2 : Int), cc := (va : Int), cs := (vb : Int), sum := (v4 : Int) } 5 (.int .i64 v4) rfl
  have hr1 := HR.out.other (grown_set W9 B 5 (.int .i64 v4)) (by simp; exact hRB)
  have hc1 := HC.out.other (grown_set W9 B 5 (.int .i64 v4)) (by simp; exact hCB)
  have t1 := T.out.grown (grown_set W9 B 5 (.int .i64 v4)) (.inr (.inr rfl))
  generalize W9.setCell ⟨B, 5, none⟩ (.int .i64 v4) = W10 at *
  have HR5 := Lib.hid hr1; have HB5 := Lib.hid hb1; have HC5 := Lib.hid hc1; have T5 := Lib.hid t1
  clear HR HB HC T hb1 hr1 hc1 t1 d f
  go_wp2_with fail
  refine (takeInt_rd R (l.drop 8) 1 _ (by rw [List.length_drop]; omega) (by omega) (by rw [List.length_drop]; omega) HR5.out).mono ?_
  rintro e W11 ⟨rfl, hr, hg⟩
  rw [List.drop_drop] at hr
  have hb := HB5.out.other hg (by simp; omega)
  have hc := HC5.out.other hg (by simp; omega)
  have d1 := hb.at_.2.2.2.2.2.2.1
  have d2 := hb.at_.2.2.2.2.2.2.2.1
  have f1 := hb.free 6
  have f2 := hb.free 7
  have t := T5.out.grown hg (.inr (.inl rfl))
  have hv255 : beNum ((l.drop 8).take 1) ≤ 255 := by have := one_byte (l.drop 8); omega
  have HH := Lib.hid (fun w => typeOf_any (beNum ((l.drop 8).take 1)) hv255 w)
  generalize hvt : beNum ((l.drop 8).take 1) / 2 % 16 = vt at *
  generalize hvx : decide (beNum ((l.drop 8).take 1) % 2 = 1) = vx at *
  have HVT := Lib.hid hvt; have HVX := Lib.hid hvx; clear hvt hvx
  have HR := Lib.hid hr; have HB := Lib.hid hb; have HC := Lib.hid hc; have T := Lib.hid t
  clear hr hb hc t hg
  go_upto_region 12 with (go_at_call 64; refine (HH.out _).mono ?_; rintro e w1 ⟨rfl, rfl⟩)
  have hb1 := (HB.out.set { Hd.zero with src := (v0 : Int), dst := (v1 : Int), off := (v2 : Int), cc := (va : Int), cs := (vb : Int), sum := (v4 : Int), type := (vt : Int) } 6 (.int .i64 vt) rfl).set { Hd.zero with src := (v0 : Int), dst := (v1 : Int), off := (v2 : Int), cc := (va : Int), cs := (vb : Int), sum := (v4 : Int), type := (vt : Int), x := vx } 7 (.bool vx) rfl
  have g2 := (grown_set W11 B 6 (.int .i64 vt)).trans (grown_set _ B 7 (.bool vx))
  have hr1 := HR.out.other g2 (by simp; exact hRB)
  have hc1 := HC.out.other g2 (by simp; exact hCB)
  have t1 := T.out.grown g2 (.inr (.inr rfl))
  generalize (W11.setCell ⟨B, 6, none⟩ (.int .i64 vt)).setCell ⟨B, 7, none⟩ (.bool vx) = W12 at *
  have HR6 := Lib.hid hr1; have HB6 := Lib.hid hb1; have HC6 := Lib.hid hc1; have T6 := Lib.hid t1
  clear HR HB HC T hb1 hr1 hc1 t1 d1 d2 f1 f2 g2 HH hv255
  go_wp2_with fail
  have hh : HdBlk (hd0 l) B W12 := by
    unfold hd0
    rw [HV0.out, HV1.out, HV2.out, HVA.out, HVB.out, HV4.out, HVT.out, HVX.out]
    exact HB6.out
  have hzl := HZL.out
  have HN := Lib.hid (numbers_any (hd0 l) R B (l.drop 9) W12 hRB (by rw [List.length_drop]; omega) (by rw [List.length_drop]; omega) HR6.out hh)
  clear hh hzl
  refine HN.out.mono ?_
  rintro e W13 ⟨rfl, hr, hb, t13⟩
  rw [List.drop_drop] at hr
  have hc : HdBlk Hd.zero C W13 := by unfold HdBlk; rw [t13.block C HC6.out.lt hCR hCB]; exact HC6.out
  have hb' : HdBlk (hd1 l) B W13 := hb
  have tt : Two W0 W13 R B := ⟨t13.os.trans T6.out.os, t13.tape.trans T6.out.tape, t13.output.trans T6.out.output, Nat.le_trans T6.out.size t13.size, fun k hk h1 h2 => (t13.block k (Nat.lt_of_lt_of_le hk T6.out.size) h1 h2).trans (T6.out.block k hk h1 h2)⟩
  have hxl : extraLen (hd1 l) = extraLen (hd0 l) := rfl
  have hzl := HZL.out
  have HN2 := Lib.hid (extras_any (hd1 l) R B (l.drop (9 + numsLen (hd0 l))) W13 hRB (by rw [List.length_drop]; omega) (by rw [hxl, List.length_drop]; omega) hr hb')
  have HC7 := Lib.hid hc; have T7 := Lib.hid tt
  clear hr hb hb' hc t13 tt hxl hzl
  go_wp2_with fail
  refine HN2.out.mono ?_
  rintro e W14 ⟨rfl, ⟨l14, hr⟩, hb, t14⟩
  have hc : HdBlk Hd.zero C W14 := by unfold HdBlk; rw [t14.block C HC7.out.lt hCR hCB]; exact HC7.out
  have hb' : HdBlk (getHd l) B W14 := hb
  have tt : Two W0 W14 R B := ⟨t14.os.trans T7.out.os, t14.tape.trans T7.out.tape, t14.output.trans T7.out.output, Nat.le_trans T7.out.size t14.size, fun k hk h1 h2 => (t14.block k (Nat.lt_of_lt_of_le hk T7.out.size) h1 h2).trans (T7.out.block k hk h1 h2)⟩
  have HB8 := Lib.hid hb'; have HC8 := Lib.hid hc; have T8 := Lib.hid tt
  clear hr hb hb' hc t14 tt
  go_upto_region 14 with fail
  iterate 1 go_step
  refine wpList_load_row rfl 39 _ rfl B rfl 39 (getHd l).cellsA (0, 0) _ HB8.out Tryz.underlying39 rfl infoHd ?_
  refine wpList_store_row rfl 39 _ _ rfl C (getHd l).cellsA rfl rfl 39 Hd.zero.cellsA HC8.out infoHd rfl (cellsA_one _) ?_
  have hset : HdBlk (getHd l) C (W14.setRow C (getHd l).cellsA) := setRow_blk HC8.out
  have HSET := Lib.hid hset
  have HG := Lib.hid (grown_setRow W14 C (getHd l).cellsA)
  have HLT := Lib.hid HC8.out.lt
  clear hset
  generalize W14.setRow C (getHd l).cellsA = W15 at *
  generalize (getHd l).cellsA = gc at *
  go_wp2
  refine bodyPost_ret (results_pair Tryz.results29 _ _ C _ rfl (load_hd HSET.out)) rfl ⟨rfl, ?_⟩
  rw [← HCC.out]
  have b1 := T8.out.below HWR.out HWB.out (by rw [HCC.out]; exact HBEL.out.size)
  refine (HBEL.out.trans b1).trans ⟨HG.out.os, HG.out.tape, HG.out.output, HG.out.size, fun k hk => HG.out.block k (by have := HLT.out; omega) (by simp; omega)⟩
end Go.Proofs.YtdlpapchjjbplaaGreatDoor
