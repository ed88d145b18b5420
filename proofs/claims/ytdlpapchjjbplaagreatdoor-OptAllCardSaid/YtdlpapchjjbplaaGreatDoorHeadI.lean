/-
  What the reader takes behind the numbers.
-/
import Derived.Test.YtdlpapchjjbplaaGreatDoorHeadH
namespace Go.Proofs.YtdlpapchjjbplaaGreatDoor
open Go.ChangeShapes Go.WideShapes Go.ChangeAt Go.RowKit
set_option linter.unusedVariables false

def Hd.withExtras (h : Hd) (l : List UInt8) : Hd :=
  if serviceB h.type = true then { h with service := beNum (l.take 4) }
  else if codeB h.type = true then { h with code := beNum (l.take 1), i0 := beNum ((l.drop 1).take 1), i1 := beNum ((l.drop 2).take 1), i2 := beNum ((l.drop 3).take 1) }
  else h
def extraLen (h : Hd) : Nat := if serviceB h.type = true then 4 else if codeB h.type = true then 4 else 0

theorem HdBlk.drew {h : Hd} {B : Nat} {w : World} (a : HdBlk h B w) : HdBlk h B w.drew := a
theorem one_byte (l : List UInt8) : beNum (l.take 1) < 256 := beNum_lt8 1 (by rw [List.length_take]; omega)

set_option maxHeartbeats 1000000 in
theorem extras_any (h : Hd) (R B : Nat) (l : List UInt8) (w : World) (hRB : R ≠ B) (hl : l.length ≤ 9223372036854775807) (hn : extraLen h ≤ l.length) (hr : RdAt l R w) (hb : HdBlk h B w) :
    Calls Tryz.prog 66 #[.pointer (some ⟨R, 0, none⟩), .pointer (some ⟨B, 0, none⟩)] w fun e w' => e = .returned (.tuple #[]) ∧ (∃ l', RdAt l' R w') ∧ HdBlk (h.withExtras l) B w' ∧ Two w w' R B := by
  have hat := hb.at_
  have d6 := hat.2.2.2.2.2.2.1
  have HR := Lib.hid hr; have HB := Lib.hid hb
  have HX : Hid (h.withExtras l = if serviceB h.type = true then { h with service := beNum (l.take 4) }
    else if codeB h.type = true then { h with code := beNum (l.take 1), i0 := beNum ((l.drop 1).take 1), i1 := beNum ((l.drop 2).take 1), i2 := beNum ((l.drop 3).take 1) }
    else h) := Lib.hid rfl
  unfold extraLen at hn
  clear hr hb hat
  have HS := Lib.hid (fun w => hasService_any h.type w)
  have HC := Lib.hid (fun w => hasCode_any h.type w)
  by_cases hs : serviceB h.type = true
  · have hc := service_not_code hs
    rw [hs] at HS HX
    rw [hc] at HC
    rw [if_pos rfl] at HX
    rw [if_pos hs] at hn
    have h4 : beNum (l.take 4) < 4294967296 := beNum_lt8 4 (by rw [List.length_take]; omega)
    clear hs hc
    go_enter Tryz.func66, Tryz.ntmps66
    go_wp2_with (first
      | (go_at_call 59; refine (HS.out _).mono ?_; rintro e w1 ⟨rfl, rfl⟩))
    refine (take_rd R l 4 _ hn (by omega) hl HR.out).mono ?_
    rintro e w2 ⟨rfl, hr2, hg2⟩
    have hb2 := HB.out.other hg2 (by simp; omega)
    have d10 := hb2.at_.2.2.2.2.2.2.2.2.2.2.1
    have f10 := hb2.free 10
    have t2 : Two w w2 R B := (Two.refl w R B).grown hg2 (.inr (.inl rfl))
    generalize hsv : beNum (l.take 4) = sv at *
    have HR2 := Lib.hid hr2; have HB2 := Lib.hid hb2; have T2 := Lib.hid t2; have HSV := Lib.hid hsv
    clear hr2 hb2 t2 hg2 hsv
    go_upto_region 2 with fail
    have hb3 := HB2.out.set { h with service := sv } 10 (.int .u32 sv) rfl
    have hr3 : RdAt (l.drop 4) R (w2.setCell ⟨B, 10, none⟩ (.int .u32 sv)) := HR2.out.other (grown_set w2 B 10 _) (by simp; exact hRB)
    have t3 : Two w (w2.setCell ⟨B, 10, none⟩ (.int .u32 sv)) R B := T2.out.grown (grown_set w2 B 10 _) (.inr (.inr rfl))
    generalize w2.setCell ⟨B, 10, none⟩ (.int .u32 sv) = w3 at *
    have e6 := hb3.at_.2.2.2.2.2.2.1
    simp only at e6
    have HR3 := Lib.hid hr3; have HB3 := Lib.hid hb3; have T3 := Lib.hid t3
    clear d6 d10 f10 hb3 hr3 t3
    go_wp2_with (first
      | (go_at_call 60; refine (HC.out _).mono ?_; rintro e w1 ⟨rfl, rfl⟩))
    go_end0
    exact ⟨rfl, ⟨_, HR3.out⟩, by rw [HX.out]; exact HB3.out, T3.out⟩
  · rw [Bool.eq_false_iff.2 hs] at HS HX
    rw [if_neg (by decide)] at HX
    rw [if_neg hs] at hn
    by_cases hc : codeB h.type = true
    · rw [hc] at HC HX
      rw [if_pos rfl] at HX
      rw [if_pos hc] at hn
      clear hs hc
      go_enter Tryz.func66, Tryz.ntmps66
      go_wp2_with (first
        | (go_at_call 59; refine (HS.out _).mono ?_; rintro e w1 ⟨rfl, rfl⟩)
        | (go_at_call 60; refine (HC.out _).mono ?_; rintro e w1 ⟨rfl, rfl⟩))
      refine (takeInt_rd R l 1 _ (by omega) (by omega) hl HR.out).mono ?_
      rintro e w2 ⟨rfl, hr2, hg2⟩
      have hb2 := HB.out.other hg2 (by simp; omega)
      have d11 := hb2.at_.2.2.2.2.2.2.2.2.2.2.2.1
      have f11 := hb2.free 11
      have t2 : Two w w2 R B := (Two.refl w R B).grown hg2 (.inr (.inl rfl))
      generalize hcv : beNum (l.take 1) = cv at *
      have HR2 := Lib.hid hr2; have HB2 := Lib.hid hb2; have T2 := Lib.hid t2
      clear hr2 hb2 t2 hg2
      go_upto_region 4 with fail
      have hb3 := HB2.out.set { h with code := (cv : Int) } 11 (.int .i64 cv) rfl
      have hr3 : RdAt (l.drop 1) R (w2.setCell ⟨B, 11, none⟩ (.int .i64 cv)) := HR2.out.other (grown_set w2 B 11 _) (by simp; exact hRB)
      have t3 : Two w (w2.setCell ⟨B, 11, none⟩ (.int .i64 cv)) R B := T2.out.grown (grown_set w2 B 11 _) (.inr (.inr rfl))
      generalize w2.setCell ⟨B, 11, none⟩ (.int .i64 cv) = w3 at *
      have HR3 := Lib.hid hr3; have HB3 := Lib.hid hb3; have T3 := Lib.hid t3
      clear d6 d11 f11 hb3 hr3 t3 hcv
      go_wp2_with fail
      refine wp_loop_rounds 4 ?_
      rw [rounds_succ]
      go_wp2_with fail
      have hv0 : beNum ((l.drop 1).take 1) < 256 := one_byte _
      generalize hb0x : beNum ((l.drop 1).take 1) = v0 at *
      have HV0 := Lib.hid hb0x; clear hb0x
      have HT0 := Lib.hid (fun w hr => take_rd R (l.drop 1) 1 w (by rw [List.length_drop]; omega) (by omega) (by rw [List.length_drop]; omega) hr)
      rw [HV0.out, List.drop_drop] at HT0
      go_region_with (go_at_call 89; refine (HT0.out _ (RdAt.drew HR3.out)).mono ?_; rintro e w4 ⟨rfl, hr4, hg4⟩; have hb4 := (HdBlk.drew HB3.out).other hg4 (by simp; omega); have d12 := hb4.at_.2.2.2.2.2.2.2.2.2.2.2.2.1; have f12 := hb4.free 12)
      have t4 : Two w w4 R B := T3.out.grown (World.grownBy.mk hg4.os hg4.tape hg4.output hg4.size hg4.block) (.inr (.inl rfl))
      have hb5 := hb4.set { h with code := (cv : Int), i0 := v0 } 12 (.int .u8 v0) rfl
      have hr5 : RdAt (l.drop 2) R (w4.setCell ⟨B, 12, none⟩ (.int .u8 v0)) := hr4.other (grown_set w4 B 12 _) (by simp; exact hRB)
      have t5 : Two w (w4.setCell ⟨B, 12, none⟩ (.int .u8 v0)) R B := t4.grown (grown_set w4 B 12 _) (.inr (.inr rfl))
      go_wp2_with fail
      generalize w4.setCell ⟨B, 12, none⟩ (.int .u8 v0) = w5 at *
      have HR5 := Lib.hid hr5; have HB5 := Lib.hid hb5; have T5 := Lib.hid t5
      clear hr4 hg4 hb4 d12 f12 t4 hb5 hr5 t5
      rw [rounds_succ]
      go_wp2_with fail
      have hv1 : beNum ((l.drop 2).take 1) < 256 := one_byte _
      generalize hb1x : beNum ((l.drop 2).take 1) = v1 at *
      have HV1 := Lib.hid hb1x; clear hb1x
      have HT1 := Lib.hid (fun w hr => take_rd R (l.drop 2) 1 w (by rw [List.length_drop]; omega) (by omega) (by rw [List.length_drop]; omega) hr)
      rw [HV1.out, List.drop_drop] at HT1
      go_region_with (go_at_call 89; refine (HT1.out _ (RdAt.drew HR5.out)).mono ?_; rintro e w6 ⟨rfl, hr6, hg6⟩; have hb6 := (HdBlk.drew HB5.out).other hg6 (by simp; omega); have d13 := hb6.at_.2.2.2.2.2.2.2.2.2.2.2.2.2.1; have f13 := hb6.free 13)
      have t6 : Two w w6 R B := T5.out.grown (World.grownBy.mk hg6.os hg6.tape hg6.output hg6.size hg6.block) (.inr (.inl rfl))
      have hb7 := hb6.set { h with code := (cv : Int), i0 := v0, i1 := v1 } 13 (.int .u8 v1) rfl
      have hr7 : RdAt (l.drop 3) R (w6.setCell ⟨B, 13, none⟩ (.int .u8 v1)) := hr6.other (grown_set w6 B 13 _) (by simp; exact hRB)
      have t7 : Two w (w6.setCell ⟨B, 13, none⟩ (.int .u8 v1)) R B := t6.grown (grown_set w6 B 13 _) (.inr (.inr rfl))
      go_wp2_with fail
      generalize w6.setCell ⟨B, 13, none⟩ (.int .u8 v1) = w7 at *
      have HR7 := Lib.hid hr7; have HB7 := Lib.hid hb7; have T7 := Lib.hid t7
      clear hr6 hg6 hb6 d13 f13 t6 hb7 hr7 t7
      rw [rounds_succ]
      go_wp2_with fail
      have hv2 : beNum ((l.drop 3).take 1) < 256 := one_byte _
      generalize hb2x : beNum ((l.drop 3).take 1) = v2 at *
      have HV2 := Lib.hid hb2x; clear hb2x
      have HT2 := Lib.hid (fun w hr => take_rd R (l.drop 3) 1 w (by rw [List.length_drop]; omega) (by omega) (by rw [List.length_drop]; omega) hr)
      rw [HV2.out, List.drop_drop] at HT2
      go_region_with (go_at_call 89; refine (HT2.out _ (RdAt.drew HR7.out)).mono ?_; rintro e w8 ⟨rfl, hr8, hg8⟩; have hb8 := (HdBlk.drew HB7.out).other hg8 (by simp; omega); have d14 := hb8.at_.2.2.2.2.2.2.2.2.2.2.2.2.2.2; have f14 := hb8.free 14)
      have t8 : Two w w8 R B := T7.out.grown (World.grownBy.mk hg8.os hg8.tape hg8.output hg8.size hg8.block) (.inr (.inl rfl))
      have hb9 := hb8.set { h with code := (cv : Int), i0 := v0, i1 := v1, i2 := v2 } 14 (.int .u8 v2) rfl
      have hr9 : RdAt (l.drop 4) R (w8.setCell ⟨B, 14, none⟩ (.int .u8 v2)) := hr8.other (grown_set w8 B 14 _) (by simp; exact hRB)
      have t9 : Two w (w8.setCell ⟨B, 14, none⟩ (.int .u8 v2)) R B := t8.grown (grown_set w8 B 14 _) (.inr (.inr rfl))
      go_wp2_with fail
      generalize w8.setCell ⟨B, 14, none⟩ (.int .u8 v2) = w9 at *
      have HR9 := Lib.hid hr9; have HB9 := Lib.hid hb9; have T9 := Lib.hid t9
      clear hr8 hg8 hb8 d14 f14 t8 hb9 hr9 t9
      rw [rounds_succ]
      go_wp2_with fail
      go_end0
      exact ⟨rfl, ⟨_, HR9.out⟩, by rw [HX.out]; exact HB9.out, T9.out⟩
    · rw [Bool.eq_false_iff.2 hc] at HC HX
      rw [if_neg (by decide)] at HX
      clear hs hc hn
      go_enter Tryz.func66, Tryz.ntmps66
      go_wp2_with (first
        | (go_at_call 59; refine (HS.out _).mono ?_; rintro e w1 ⟨rfl, rfl⟩)
        | (go_at_call 60; refine (HC.out _).mono ?_; rintro e w1 ⟨rfl, rfl⟩))
      go_end0
      exact ⟨rfl, ⟨_, HR.out⟩, by rw [HX.out]; exact HB.out, Two.refl _ _ _⟩
end Go.Proofs.YtdlpapchjjbplaaGreatDoor
