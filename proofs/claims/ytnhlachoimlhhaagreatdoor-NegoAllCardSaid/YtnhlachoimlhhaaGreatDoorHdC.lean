/-
  What the reader takes into a head.
  What the reader takes behind the numbers.
  What is wrong with bytes as a head.
  What head.Get answers.
  What head.Get answers where nothing is wrong.
-/
import Derived.Test.YtnhlachoimlhhaaGreatDoorHdB
namespace Go.Proofs.YtnhlachoimlhhaaGreatDoor
open Go.ChangeShapes Go.WideShapes Go.ChangeAt Go.RowKit
set_option linter.unusedVariables false

theorem and15 : ∀ a : Fin 256, bits .and .i64 (a.val : Int) 15 = ((a.val % 16 : Nat) : Int) := by decide +kernel
theorem and1 : ∀ a : Fin 256, bits .and .i64 (a.val : Int) 1 = ((a.val % 2 : Nat) : Int) := by decide +kernel

theorem halves_any (n : Nat) (hn : n ≤ 255) (w : World) :
    Calls Tryz.prog 268 #[.int .i64 n] w fun e w' => e = .returned (.tuple #[.int .i64 (n / 16 : Nat), .int .i64 (n % 16 : Nat)]) ∧ w = w' := by
  have h15 := and15 ⟨n, by omega⟩
  simp only at h15
  go_enter Tryz.func268, Tryz.ntmps268
  go_wp2
  go_ret2
  exact ⟨M.ret_ints (by simp) (by simp), rfl⟩

theorem ret_tb {a b : Int} {c d : Bool} (h : a = b) (g : c = d) : Ending.returned (.tuple #[.int .i64 a, .bool c]) = .returned (.tuple #[.int .i64 b, .bool d]) := by rw [h, g]
theorem typeOf_any (n : Nat) (hn : n ≤ 255) (w : World) :
    Calls Tryz.prog 269 #[.int .i64 n] w fun e w' => e = .returned (.tuple #[.int .i64 (n / 2 % 16 : Nat), .bool (decide (n % 2 = 1))]) ∧ w = w' := by
  have h15 : bits .and .i64 ((n : Int) / 2) 15 = ((n / 2 % 16 : Nat) : Int) := and15 ⟨n / 2, by omega⟩
  have h1 := and1 ⟨n, by omega⟩
  simp only at h1
  go_enter Tryz.func269, Tryz.ntmps269
  go_wp2
  go_ret2
  exact ⟨ret_tb (by simp) (by rw [Bool.eq_iff_iff]; simp; omega), rfl⟩

/-- The head h, at block B. -/
def HdBlk (h : Hd) (B : Nat) (w : World) : Prop := w.heap[B]? = some h.box
theorem HdBlk.lt {h : Hd} {B : Nat} {w : World} (a : HdBlk h B w) : B < w.heap.size := by
  rcases Nat.lt_or_ge B w.heap.size with hlt | hge
  · exact hlt
  · unfold HdBlk at a; rw [Array.getElem?_eq_none hge] at a; cases a
theorem HdBlk.at_ {h : Hd} {B : Nat} {w : World} (a : HdBlk h B w) : HdAt h B w := by
  unfold HdBlk Hd.box at a
  unfold HdAt
  simp only [cell_of_row w B _ _ _ _ a]
  simp
theorem HdBlk.free {h : Hd} {B : Nat} {w : World} (a : HdBlk h B w) (i : Nat) : w.frozen? ⟨B, i, none⟩ = false := frozen_of_row w B i _ _ a
theorem HdBlk.other {h : Hd} {B : Nat} {w w' : World} {row : Option Nat} (a : HdBlk h B w) (hg : w.grownBy w' row) (hne : some B ≠ row) : HdBlk h B w' := by
  unfold HdBlk; rw [hg.block B a.lt hne]; exact a
def Hd.cellsA (h : Hd) : Array Value := #[.int .i64 h.src, .int .i64 h.dst, .int .i64 h.off, .int .i64 h.cc, .int .i64 h.cs, .int .i64 h.sum, .int .i64 h.type, .bool h.x, .int .u64 h.seq, .int .u64 h.ack, .int .u32 h.service, .int .i64 h.code, .int .u8 h.i0, .int .u8 h.i1, .int .u8 h.i2]
theorem HdBlk.set {h : Hd} {B : Nat} {w : World} (a : HdBlk h B w) (h2 : Hd) (i : Nat) (v : Value) (e : h.cellsA.setIfInBounds i v = h2.cellsA) : HdBlk h2 B (w.setCell ⟨B, i, none⟩ v) := by
  have a1 : w.heap[B]? = some (.cells h.cellsA 66) := a
  have a2 := heap_setCell_same w B i _ _ v a1
  rw [e] at a2
  exact a2

/-- Two blocks alone have turned. -/
structure Two (w w' : World) (R B : Nat) : Prop where
  os : w'.os = w.os
  tape : w'.tape = w.tape
  output : w'.output = w.output
  size : w.heap.size ≤ w'.heap.size
  block : ∀ k, k < w.heap.size → k ≠ R → k ≠ B → w'.heap[k]? = w.heap[k]?
theorem Two.refl (w : World) (R B : Nat) : Two w w R B := ⟨rfl, rfl, rfl, Nat.le_refl _, fun _ _ _ _ => rfl⟩
theorem Two.grown {w w1 w2 : World} {R B : Nat} {row : Option Nat} (h : Two w w1 R B) (g : w1.grownBy w2 row) (hr : row = none ∨ row = some R ∨ row = some B) : Two w w2 R B :=
  ⟨g.os.trans h.os, g.tape.trans h.tape, g.output.trans h.output, Nat.le_trans h.size g.size, fun k hk h1 h2 => by
    rw [g.block k (Nat.lt_of_lt_of_le hk h.size) (by rcases hr with rfl | rfl | rfl <;> simp [h1, h2])]
    exact h.block k hk h1 h2⟩
theorem Two.below {w w' : World} {R B b : Nat} (h : Two w w' R B) (hR : b ≤ R) (hB : b ≤ B) (hb : b ≤ w.heap.size) : Below b w w' :=
  ⟨h.os, h.tape, h.output, h.size, fun k hk => h.block k (by omega) (by omega) (by omega)⟩

/-- A head whose numbers have been taken out of bytes. -/
def numsLen (h : Hd) : Nat := seqPad h.x + numLen h.x + if hasAckB h.type = true then ackPad h.x + numLen h.x else 0
def seqOf (h : Hd) (l : List UInt8) : Nat := beNum ((l.drop (seqPad h.x)).take (numLen h.x))
def ackOf (h : Hd) (l : List UInt8) : Nat := if hasAckB h.type = true then beNum ((l.drop (seqPad h.x + numLen h.x + ackPad h.x)).take (numLen h.x)) else h.ack

theorem numLen_le (x : Bool) : numLen x ≤ 6 ∧ seqPad x ≤ 1 ∧ ackPad x ≤ 2 := by cases x <;> decide

set_option maxHeartbeats 1000000 in
theorem numbers_any (h : Hd) (R B : Nat) (l : List UInt8) (w : World) (hRB : R ≠ B) (hl : l.length ≤ 9223372036854775807) (hn : numsLen h ≤ l.length) (hr : RdAt l R w) (hb : HdBlk h B w) :
    Calls Tryz.prog 270 #[.pointer (some ⟨R, 0, none⟩), .pointer (some ⟨B, 0, none⟩)] w fun e w' => e = .returned (.tuple #[]) ∧ RdAt (l.drop (numsLen h)) R w' ∧ HdBlk { h with seq := seqOf h l, ack := ackOf h l } B w' ∧ Two w w' R B := by
  have hat := hb.at_
  have hfr := hb.free
  have d7 := hat.2.2.2.2.2.2.2.1
  have hnl := numLen_le h.x
  have HR := Lib.hid hr; have HB := Lib.hid hb
  clear hr hb hat hfr
  go_enter Tryz.func270, Tryz.ntmps270
  go_wp2_with (first
    | (go_at_call 293; refine (seqRoom_any _ _).mono ?_; rintro e w1 ⟨rfl, rfl⟩))
  refine (takeFrom_rd R l (seqPad h.x) (numLen h.x) _ (by unfold numsLen at hn; omega) (by omega) (by omega) hl (HR.out.alloc _)).mono ?_
  rintro e w2 ⟨rfl, hr2, hg2⟩
  have hb2 := (HB.out.other (World.grownBy_alloc w (.cells #[.int .i64 (seqPad h.x : Nat), .int .i64 (numLen h.x : Nat)] 328) none) (by simp)).other hg2 (by simp; omega)
  have d8 := hb2.at_.2.2.2.2.2.2.2.2.1
  have f8 := hb2.free 8
  have t2 : Two w w2 R B := ((Two.refl w R B).grown (World.grownBy_alloc w _ none) (.inl rfl)).grown hg2 (.inr (.inl rfl))
  have hsq : beNum ((l.drop (seqPad h.x)).take (numLen h.x)) = seqOf h l := rfl
  rw [hsq]
  generalize hsv : seqOf h l = sv at *
  have HR2 := Lib.hid hr2; have HB2 := Lib.hid hb2; have T2 := Lib.hid t2; have HSV := Lib.hid hsv
  clear hr2 hb2 t2 hg2 hsq hsv
  go_upto_region 1 with fail
  have hb3 := HB2.out.set { h with seq := sv } 8 (.int .u64 sv) rfl
  have hr3 : RdAt (l.drop (seqPad h.x + numLen h.x)) R (w2.setCell ⟨B, 8, none⟩ (.int .u64 sv)) := HR2.out.other (grown_set w2 B 8 _) (by simp; exact hRB)
  have t3 : Two w (w2.setCell ⟨B, 8, none⟩ (.int .u64 sv)) R B := T2.out.grown (grown_set w2 B 8 _) (.inr (.inr rfl))
  generalize w2.setCell ⟨B, 8, none⟩ (.int .u64 sv) = w3 at *
  have e6 := hb3.at_.2.2.2.2.2.2.1
  have e7 := hb3.at_.2.2.2.2.2.2.2.1
  have HR3 := Lib.hid hr3; have HB3 := Lib.hid hb3; have T3 := Lib.hid t3
  clear d7 d8 f8 hb3 hr3 t3
  simp only at e6 e7
  by_cases ha : hasAckB h.type = true
  · have HA := Lib.hid (fun w => hasAck_any h.type w)
    rw [ha] at HA
    have hav : ackOf h l = beNum ((l.drop (seqPad h.x + numLen h.x + ackPad h.x)).take (numLen h.x)) := by unfold ackOf; rw [if_pos ha]
    have hnn : numsLen h = seqPad h.x + numLen h.x + (ackPad h.x + numLen h.x) := by unfold numsLen; rw [if_pos ha]
    have HAV := Lib.hid hav; have HNN := Lib.hid hnn
    have hlk : seqPad h.x + numLen h.x + (ackPad h.x + numLen h.x) ≤ l.length := by omega
    clear ha hav hnn hn
    go_wp2_with (first
      | (go_at_call 98; refine (HA.out _).mono ?_; rintro e w1 ⟨rfl, rfl⟩)
      | (go_at_call 294; refine (ackRoom_any _ _).mono ?_; rintro e w1 ⟨rfl, rfl⟩))
    refine (takeFrom_rd R (l.drop (seqPad h.x + numLen h.x)) (ackPad h.x) (numLen h.x) _ (by rw [List.length_drop]; omega) (by omega) (by omega) (by rw [List.length_drop]; omega) (HR3.out.alloc _)).mono ?_
    rintro e w4 ⟨rfl, hr4, hg4⟩
    have hb4 := (HB3.out.other (World.grownBy_alloc w3 (.cells #[.int .i64 (ackPad h.x : Nat), .int .i64 (numLen h.x : Nat)] 328) none) (by simp)).other hg4 (by simp; omega)
    have d9 := hb4.at_.2.2.2.2.2.2.2.2.2.1
    have f9 := hb4.free 9
    have t4 : Two w w4 R B := (T3.out.grown (World.grownBy_alloc w3 _ none) (.inl rfl)).grown hg4 (.inr (.inl rfl))
    rw [List.drop_drop] at hr4
    rw [List.drop_drop, ← HAV.out]
    generalize hav : ackOf h l = av at *
    have HR4 := Lib.hid hr4; have HB4 := Lib.hid hb4; have T4 := Lib.hid t4; have HAV2 := Lib.hid hav
    clear hr4 hb4 t4 hg4 hav e6 e7
    simp only at d9
    go_wp2
    go_end0
    refine ⟨rfl, ?_, ?_, T4.out.grown (grown_set w4 B 9 _) (.inr (.inr rfl))⟩
    · rw [HNN.out]
      exact RdAt.other (by first | exact HR4.out | (have := HR4.out; rwa [Nat.add_assoc] at this)) (grown_set w4 B 9 _) (by simp; exact hRB)
    · rw [HSV.out, HAV2.out]
      exact HB4.out.set { h with seq := sv, ack := av } 9 (.int .u64 av) rfl
  · have HA := Lib.hid (fun w => hasAck_any h.type w)
    rw [Bool.eq_false_iff.2 ha] at HA
    have hav : ackOf h l = h.ack := by unfold ackOf; rw [if_neg ha]
    have hnn : numsLen h = seqPad h.x + numLen h.x := by unfold numsLen; rw [if_neg ha]; rfl
    have HAV := Lib.hid hav; have HNN := Lib.hid hnn
    clear ha hav hnn hn
    go_wp2_with (first
      | (go_at_call 98; refine (HA.out _).mono ?_; rintro e w1 ⟨rfl, rfl⟩))
    go_end0
    exact ⟨rfl, by rw [HNN.out]; exact HR3.out, by rw [HAV.out, HSV.out]; exact HB3.out, T3.out⟩
end Go.Proofs.YtnhlachoimlhhaaGreatDoor

namespace Go.Proofs.YtnhlachoimlhhaaGreatDoor
open Go.ChangeShapes Go.WideShapes Go.ChangeAt Go.RowKit
set_option linter.unusedVariables false

def Hd.withExtras (h : Hd) (l : List UInt8) : Hd :=
  if serviceB h.type = true then { h with service := beNum (l.take 4) }
  else if codeB h.type = true then { h with code := beNum (l.take 1), i0 := beNum ((l.drop 1).take 1), i1 := beNum ((l.drop 2).take 1), i2 := beNum ((l.drop 3).take 1) }
  else h
def extraLen (h : Hd) : Nat := if serviceB h.type = true then 4 else if codeB h.type = true then 4 else 0

theorem HdBlk.drew {h : Hd} {B : Nat} {w : World} (a : HdBlk h B w) : HdBlk h B w.drew := a
theorem one_byte (l : List UInt8) : beNum (l.take 1) < 256 := beNum_lt8 1 (by rw [List.length_take]; omega)

set_option maxHeartbeats 1000000 in
theorem extras_any (h : Hd) (R B : Nat) (l : List UInt8) (w : World) (hRB : R ≠ B) (hl : l.length ≤ 9223372036854775807) (hn : extraLen h ≤ l.length) (hr : RdAt l R w) (hb : HdBlk h B w) :
    Calls Tryz.prog 271 #[.pointer (some ⟨R, 0, none⟩), .pointer (some ⟨B, 0, none⟩)] w fun e w' => e = .returned (.tuple #[]) ∧ (∃ l', RdAt l' R w') ∧ HdBlk (h.withExtras l) B w' ∧ Two w w' R B := by
  have hat := hb.at_
  have d6 := hat.2.2.2.2.2.2.1
  have HR := Lib.hid hr; have HB := Lib.hid hb
  have HX : Hid (h.withExtras l = if serviceB h.type = true then { h with service := beNum (l.take 4) }
    else if codeB h.type = true then { h with code := beNum (l.take 1), i0 := beNum ((l.drop 1).take 1), i1 := beNum ((l.drop 2).take 1), i2 := beNum ((l.drop 3).take 1) }
    else h) := Lib.hid rfl
  unfold extraLen at hn
  clear hr hb hat
  have HS := Lib.hid (fun w => hasService_any h.type w)
  have HC := Lib.hid (fun w => hasCode_any h.type w)
  by_cases hs : serviceB h.type = true
  · have hc := service_not_code hs
    rw [hs] at HS HX
    rw [hc] at HC
    rw [if_pos rfl] at HX
    rw [if_pos hs] at hn
    have h4 : beNum (l.take 4) < 4294967296 := beNum_lt8 4 (by rw [List.length_take]; omega)
    clear hs hc
    go_enter Tryz.func271, Tryz.ntmps271
    go_wp2_with (first
      | (go_at_call 245; refine (HS.out _).mono ?_; rintro e w1 ⟨rfl, rfl⟩))
    refine (take_rd R l 4 _ hn (by omega) hl HR.out).mono ?_
    rintro e w2 ⟨rfl, hr2, hg2⟩
    have hb2 := HB.out.other hg2 (by simp; omega)
    have d10 := hb2.at_.2.2.2.2.2.2.2.2.2.2.1
    have f10 := hb2.free 10
    have t2 : Two w w2 R B := (Two.refl w R B).grown hg2 (.inr (.inl rfl))
    generalize hsv : beNum (l.take 4) = sv at *
    have HR2 := Lib.hid hr2; have HB2 := Lib.hid hb2; have T2 := Lib.hid t2; have HSV := Lib.hid hsv
    clear hr2 hb2 t2 hg2 hsv
    go_upto_region 2 with fail
    have hb3 := HB2.out.set { h with service := sv } 10 (.int .u32 sv) rfl
    have hr3 : RdAt (l.drop 4) R (w2.setCell ⟨B, 10, none⟩ (.int .u32 sv)) := HR2.out.other (grown_set w2 B 10 _) (by simp; exact hRB)
    have t3 : Two w (w2.setCell ⟨B, 10, none⟩ (.int .u32 sv)) R B := T2.out.grown (grown_set w2 B 10 _) (.inr (.inr rfl))
    generalize w2.setCell ⟨B, 10, none⟩ (.int .u32 sv) = w3 at *
    have e6 := hb3.at_.2.2.2.2.2.2.1
    simp only at e6
    have HR3 := Lib.hid hr3; have HB3 := Lib.hid hb3; have T3 := Lib.hid t3
    clear d6 d10 f10 hb3 hr3 t3
    go_wp2_with (first
      | (go_at_call 246; refine (HC.out _).mono ?_; rintro e w1 ⟨rfl, rfl⟩))
    go_end0
    exact ⟨rfl, ⟨_, HR3.out⟩, by rw [HX.out]; exact HB3.out, T3.out⟩
  · rw [Bool.eq_false_iff.2 hs] at HS HX
    rw [if_neg (by decide)] at HX
    rw [if_neg hs] at hn
    by_cases hc : codeB h.type = true
    · rw [hc] at HC HX
      rw [if_pos rfl] at HX
      rw [if_pos hc] at hn
      clear hs hc
      go_enter Tryz.func271, Tryz.ntmps271
      go_wp2_with (first
        | (go_at_call 245; refine (HS.out _).mono ?_; rintro e w1 ⟨rfl, rfl⟩)
        | (go_at_call 246; refine (HC.out _).mono ?_; rintro e w1 ⟨rfl, rfl⟩))
      refine (takeInt_rd R l 1 _ (by omega) (by omega) hl HR.out).mono ?_
      rintro e w2 ⟨rfl, hr2, hg2⟩
      have hb2 := HB.out.other hg2 (by simp; omega)
      have d11 := hb2.at_.2.2.2.2.2.2.2.2.2.2.2.1
      have f11 := hb2.free 11
      have t2 : Two w w2 R B := (Two.refl w R B).grown hg2 (.inr (.inl rfl))
      generalize hcv : beNum (l.take 1) = cv at *
      have HR2 := Lib.hid hr2; have HB2 := Lib.hid hb2; have T2 := Lib.hid t2
      clear hr2 hb2 t2 hg2
      go_upto_region 4 with fail
      have hb3 := HB2.out.set { h with code := (cv : Int) } 11 (.int .i64 cv) rfl
      have hr3 : RdAt (l.drop 1) R (w2.setCell ⟨B, 11, none⟩ (.int .i64 cv)) := HR2.out.other (grown_set w2 B 11 _) (by simp; exact hRB)
      have t3 : Two w (w2.setCell ⟨B, 11, none⟩ (.int .i64 cv)) R B := T2.out.grown (grown_set w2 B 11 _) (.inr (.inr rfl))
      generalize w2.setCell ⟨B, 11, none⟩ (.int .i64 cv) = w3 at *
      have HR3 := Lib.hid hr3; have HB3 := Lib.hid hb3; have T3 := Lib.hid t3
      clear d6 d11 f11 hb3 hr3 t3 hcv
      go_wp2_with fail
      refine wp_loop_rounds 4 ?_
      rw [rounds_succ]
      go_wp2_with fail
      have hv0 : beNum ((l.drop 1).take 1) < 256 := one_byte _
      generalize hb0x : beNum ((l.drop 1).take 1) = v0 at *
      have HV0 := Lib.hid hb0x; clear hb0x
      have HT0 := Lib.hid (fun w hr => take_rd R (l.drop 1) 1 w (by rw [List.length_drop]; omega) (by omega) (by rw [List.length_drop]; omega) hr)
      rw [HV0.out, List.drop_drop] at HT0
      go_region_with (go_at_call 295; refine (HT0.out _ (RdAt.drew HR3.out)).mono ?_; rintro e w4 ⟨rfl, hr4, hg4⟩; have hb4 := (HdBlk.drew HB3.out).other hg4 (by simp; omega); have d12 := hb4.at_.2.2.2.2.2.2.2.2.2.2.2.2.1; have f12 := hb4.free 12)
      have t4 : Two w w4 R B := T3.out.grown (World.grownBy.mk hg4.os hg4.tape hg4.output hg4.size hg4.block) (.inr (.inl rfl))
      have hb5 := hb4.set { h with code := (cv : Int), i0 := v0 } 12 (.int .u8 v0) rfl
      have hr5 : RdAt (l.drop 2) R (w4.setCell ⟨B, 12, none⟩ (.int .u8 v0)) := hr4.other (grown_set w4 B 12 _) (by simp; exact hRB)
      have t5 : Two w (w4.setCell ⟨B, 12, none⟩ (.int .u8 v0)) R B := t4.grown (grown_set w4 B 12 _) (.inr (.inr rfl))
      go_wp2_with fail
      generalize w4.setCell ⟨B, 12, none⟩ (.int .u8 v0) = w5 at *
      have HR5 := Lib.hid hr5; have HB5 := Lib.hid hb5; have T5 := Lib.hid t5
      clear hr4 hg4 hb4 d12 f12 t4 hb5 hr5 t5
      rw [rounds_succ]
      go_wp2_with fail
      have hv1 : beNum ((l.drop 2).take 1) < 256 := one_byte _
      generalize hb1x : beNum ((l.drop 2).take 1) = v1 at *
      have HV1 := Lib.hid hb1x; clear hb1x
      have HT1 := Lib.hid (fun w hr => take_rd R (l.drop 2) 1 w (by rw [List.length_drop]; omega) (by omega) (by rw [List.length_drop]; omega) hr)
      rw [HV1.out, List.drop_drop] at HT1
      go_region_with (go_at_call 295; refine (HT1.out _ (RdAt.drew HR5.out)).mono ?_; rintro e w6 ⟨rfl, hr6, hg6⟩; have hb6 := (HdBlk.drew HB5.out).other hg6 (by simp; omega); have d13 := hb6.at_.2.2.2.2.2.2.2.2.2.2.2.2.2.1; have f13 := hb6.free 13)
      have t6 : Two w w6 R B := T5.out.grown (World.grownBy.mk hg6.os hg6.tape hg6.output hg6.size hg6.block) (.inr (.inl rfl))
      have hb7 := hb6.set { h with code := (cv : Int), i0 := v0, i1 := v1 } 13 (.int .u8 v1) rfl
      have hr7 : RdAt (l.drop 3) R (w6.setCell ⟨B, 13, none⟩ (.int .u8 v1)) := hr6.other (grown_set w6 B 13 _) (by simp; exact hRB)
      have t7 : Two w (w6.setCell ⟨B, 13, none⟩ (.int .u8 v1)) R B := t6.grown (grown_set w6 B 13 _) (.inr (.inr rfl))
      go_wp2_with fail
      generalize w6.setCell ⟨B, 13, none⟩ (.int .u8 v1) = w7 at *
      have HR7 := Lib.hid hr7; have HB7 := Lib.hid hb7; have T7 := Lib.hid t7
      clear hr6 hg6 hb6 d13 f13 t6 hb7 hr7 t7
      rw [rounds_succ]
      go_wp2_with fail
      have hv2 : beNum ((l.drop 3).take 1) < 256 := one_byte _
      generalize hb2x : beNum ((l.drop 3).take 1) = v2 at *
      have HV2 := Lib.hid hb2x; clear hb2x
      have HT2 := Lib.hid (fun w hr => take_rd R (l.drop 3) 1 w (by rw [List.length_drop]; omega) (by omega) (by rw [List.length_drop]; omega) hr)
      rw [HV2.out, List.drop_drop] at HT2
      go_region_with (go_at_call 295; refine (HT2.out _ (RdAt.drew HR7.out)).mono ?_; rintro e w8 ⟨rfl, hr8, hg8⟩; have hb8 := (HdBlk.drew HB7.out).other hg8 (by simp; omega); have d14 := hb8.at_.2.2.2.2.2.2.2.2.2.2.2.2.2.2; have f14 := hb8.free 14)
      have t8 : Two w w8 R B := T7.out.grown (World.grownBy.mk hg8.os hg8.tape hg8.output hg8.size hg8.block) (.inr (.inl rfl))
      have hb9 := hb8.set { h with code := (cv : Int), i0 := v0, i1 := v1, i2 := v2 } 14 (.int .u8 v2) rfl
      have hr9 : RdAt (l.drop 4) R (w8.setCell ⟨B, 14, none⟩ (.int .u8 v2)) := hr8.other (grown_set w8 B 14 _) (by simp; exact hRB)
      have t9 : Two w (w8.setCell ⟨B, 14, none⟩ (.int .u8 v2)) R B := t8.grown (grown_set w8 B 14 _) (.inr (.inr rfl))
      go_wp2_with fail
      generalize w8.setCell ⟨B, 14, none⟩ (.int .u8 v2) = w9 at *
      have HR9 := Lib.hid hr9; have HB9 := Lib.hid hb9; have T9 := Lib.hid t9
      clear hr8 hg8 hb8 d14 f14 t8 hb9 hr9 t9
      rw [rounds_succ]
      go_wp2_with fail
      go_end0
      exact ⟨rfl, ⟨_, HR9.out⟩, by rw [HX.out]; exact HB9.out, T9.out⟩
    · rw [Bool.eq_false_iff.2 hc] at HC HX
      rw [if_neg (by decide)] at HX
      clear hs hc hn
      go_enter Tryz.func271, Tryz.ntmps271
      go_wp2_with (first
        | (go_at_call 245; refine (HS.out _).mono ?_; rintro e w1 ⟨rfl, rfl⟩)
        | (go_at_call 246; refine (HC.out _).mono ?_; rintro e w1 ⟨rfl, rfl⟩))
      go_end0
      exact ⟨rfl, ⟨_, HR.out⟩, by rw [HX.out]; exact HB.out, Two.refl _ _ _⟩
end Go.Proofs.YtnhlachoimlhhaaGreatDoor

namespace Go.Proofs.YtnhlachoimlhhaaGreatDoor
open Go.ChangeShapes Go.WideShapes Go.ChangeAt Go.RowKit
set_option linter.unusedVariables false

def byteAt (l : List UInt8) (i : Nat) : Nat := (l.getD i 0).toNat
theorem byteAt_lt (l : List UInt8) (i : Nat) : byteAt l i < 256 := (l.getD i 0).toNat_lt
def hType (l : List UInt8) : Nat := byteAt l 8 / 2 % 16
def hX (l : List UInt8) : Bool := decide (byteAt l 8 % 2 = 1)
/-- The first fault of bytes as a packet with a head, by its number; 0: none. -/
def faultN (l : List UInt8) : Nat :=
  if l.length < 12 then 1 else if 9 < hType l then 2 else if sizeN (hType l) (hX l) = 0 then 3 else if l.length < sizeN (hType l) (hX l) then 1
  else if byteAt l 4 < sizeN (hType l) (hX l) / 4 ∨ l.length < byteAt l 4 * 4 then 4 else 0

theorem isType_any (t : Nat) (w : World) :
    Calls Tryz.prog 124 #[.int .i64 t] w fun e w' => e = .returned (.bool (decide (t ≤ 9))) ∧ w = w' := by
  by_cases h : t ≤ 9
  · rw [decide_eq_true h]
    go_enter Tryz.func124, Tryz.ntmps124
    go_wp2
    go_ret
    exact ⟨M.ret_bool (by simp; omega), rfl⟩
  · rw [decide_eq_false h]
    go_enter Tryz.func124, Tryz.ntmps124
    go_wp2
    go_ret
    exact ⟨M.ret_bool (by simp; omega), rfl⟩

set_option maxHeartbeats 1000000 in
theorem fault_any (l : List UInt8) (hl : l.length ≤ 9223372036854775807) (w : World) :
    Calls Tryz.prog 266 #[.string (str l)] w fun e w' => e = .returned (.int .i64 (faultN l)) ∧ ∃ n, w' = w.drewN n := by
  have hss : (str l).size = l.length := rfl
  have HF : Hid (faultN l = if l.length < 12 then 1 else if 9 < hType l then 2 else if sizeN (hType l) (hX l) = 0 then 3 else if l.length < sizeN (hType l) (hX l) then 1
    else if byteAt l 4 < sizeN (hType l) (hX l) / 4 ∨ l.length < byteAt l 4 * 4 then 4 else 0) := Lib.hid rfl
  by_cases h12 : l.length < 12
  · rw [if_pos h12] at HF
    obtain ⟨s, hs⟩ : ∃ s, str l = s := ⟨_, rfl⟩
    rw [hs] at hss ⊢
    have hd : decide (s.size < 12) = true := decide_eq_true (by omega)
    clear hs
    go_enter Tryz.func266, Tryz.ntmps266
    go_wp2
    go_ret
    exact ⟨M.ret_int (by rw [HF.out]; simp), 0, rfl⟩
  rw [if_neg h12] at HF
  have e8 : ∀ h : 8 < (str l).size, ((str l)[8]'h).toNat = byteAt l 8 := by
    intro h
    have h8 : 8 < l.length := h
    show (l[8]'h8).toNat = _
    unfold byteAt; simp [h8]
  have e4 : ∀ h : 4 < (str l).size, ((str l)[4]'h).toNat = byteAt l 4 := by
    intro h
    have h8 : 4 < l.length := h
    show (l[4]'h8).toNat = _
    unfold byteAt; simp [h8]
  have b8 := byteAt_lt l 8
  have b4 := byteAt_lt l 4
  have HT := Lib.hid (fun w => typeOf_any (byteAt l 8) (by omega) w)
  have ht : byteAt l 8 / 2 % 16 = hType l := rfl
  have hx : decide (byteAt l 8 % 2 = 1) = hX l := rfl
  have htl : hType l < 16 := Nat.mod_lt _ (by decide)
  rw [ht, hx] at HT
  have HSZ := Lib.hid (fun w => size_any (hType l) (hX l) w)
  have hsn := sizeN_le (hType l) (hX l)
  obtain ⟨s, hs⟩ : ∃ s, str l = s := ⟨_, rfl⟩
  rw [hs] at hss ⊢
  simp only [hs] at e8 e4
  have h12s : 12 ≤ s.size := by omega
  rw [← hss] at HF
  clear hss h12
  have h8s : 8 < s.size := by omega
  have h4s : 4 < s.size := by omega
  have e8' : ((s[8]'h8s).toNat : Int) = (byteAt l 8 : Int) := by rw [e8 h8s]
  have e4' : ((s[4]'h4s).toNat : Int) = (byteAt l 4 : Int) := by rw [e4 h4s]
  clear hs e8 e4 ht hx
  generalize byteAt l 8 = n8 at *
  generalize byteAt l 4 = n4 at *
  generalize hType l = t at *
  generalize hX l = x at *
  generalize sizeN (t : Int) x = z at *
  have HIT := Lib.hid (fun w => isType_any t w)
  go_enter Tryz.func266, Tryz.ntmps266
  go_upto_region 4 with (go_at_call 269; refine (HT.out _).mono ?_; rintro e w1 ⟨rfl, rfl⟩)
  go_cut [5, 6] (fun a b wx => a = .int .i64 z ∧ b = .int .i64 n4 ∧ ∃ n, wx = w.drewN n)
  case first =>
    go_region_with (go_at_call 211; refine (HSZ.out _).mono ?_; rintro e w1 ⟨rfl, rfl⟩)
    all_goals (go_wp2_with fail; go_meet; exact ⟨rfl, by rw [IntWalk.i64_in _ ⟨by omega, by omega⟩], 1, rfl⟩)
  case rest =>
    obtain ⟨rfl, rfl, n, rfl⟩ := hcut
    by_cases ht : t ≤ 9
    · rw [decide_eq_true ht] at HIT
      rw [if_neg (by omega)] at HF
      clear ht
      by_cases hz : z = 0
      · subst hz
        rw [if_pos rfl] at HF
        go_wp2_with (go_at_call 124; refine (HIT.out _).mono ?_; rintro e w1 ⟨rfl, rfl⟩)
        go_ret
        exact ⟨M.ret_int (by rw [HF.out]; simp), n, rfl⟩
      · rw [if_neg hz] at HF
        have hzb : (((z : Nat) : Int) == 0) = false := by rw [beq_eq_false_iff_ne]; omega
        clear hz
        by_cases hsz : s.size < z
        · rw [if_pos hsz] at HF
          have hd := decide_eq_true hsz
          go_wp2_with (go_at_call 124; refine (HIT.out _).mono ?_; rintro e w1 ⟨rfl, rfl⟩)
          go_ret
          exact ⟨M.ret_int (by rw [HF.out]; simp), n, rfl⟩
        · rw [if_neg hsz] at HF
          have hd := decide_eq_false hsz
          by_cases h41 : n4 < z / 4
          · rw [if_pos (.inl h41)] at HF
            have hd2 := decide_eq_true (p := (n4 : Int) < (z : Int) / 4) (by omega)
            have hd2n := decide_eq_true h41
            go_wp2_with (go_at_call 124; refine (HIT.out _).mono ?_; rintro e w1 ⟨rfl, rfl⟩)
            go_ret
            exact ⟨M.ret_int (by rw [HF.out]; simp), n, rfl⟩
          · have hd2 := decide_eq_false (p := (n4 : Int) < (z : Int) / 4) (by omega)
            by_cases h42 : s.size < n4 * 4
            · rw [if_pos (.inr h42)] at HF
              have hd3 := decide_eq_true (p := (s.size : Int) < (n4 : Int) * 4) (by omega)
              go_wp2_with (go_at_call 124; refine (HIT.out _).mono ?_; rintro e w1 ⟨rfl, rfl⟩)
              go_ret
              exact ⟨M.ret_int (by rw [HF.out]; simp), n, rfl⟩
            · rw [if_neg (by omega)] at HF
              have hd3 := decide_eq_false (p := (s.size : Int) < (n4 : Int) * 4) (by omega)
              go_wp2_with (go_at_call 124; refine (HIT.out _).mono ?_; rintro e w1 ⟨rfl, rfl⟩)
              go_ret
              exact ⟨M.ret_int (by rw [HF.out]; simp), n, rfl⟩
    · rw [decide_eq_false ht] at HIT
      rw [if_pos (by omega)] at HF
      go_wp2_with (go_at_call 124; refine (HIT.out _).mono ?_; rintro e w1 ⟨rfl, rfl⟩)
      go_ret
      exact ⟨M.ret_int (by rw [HF.out]; simp), n, rfl⟩
end Go.Proofs.YtnhlachoimlhhaaGreatDoor

namespace Go.Proofs.YtnhlachoimlhhaaGreatDoor
open Go.ChangeShapes Go.WideShapes Go.ChangeAt Go.RowKit
set_option linter.unusedVariables false

def Hd.zero : Hd := ⟨0, 0, 0, 0, 0, 0, 0, false, 0, 0, 0, 0, 0, 0, 0⟩

theorem cellsA_one (h : Hd) : h.cellsA.all (·.oneCell') = true := by simp [Hd.cellsA, Value.oneCell']
theorem infoHd : (Tryz.prog.info? 66).map (·.size) = some 15 := by kernel_rfl

theorem results_pair {fn : Func} {p q : Tmp} {ty : TypeId} (h : fn.results = #[.cell p ty, .tmp q]) (tmps : Array Value) (w : World) (g : Nat) (cs : Array Value)
    (hp : tmps.getD p undef = .pointer (some ⟨g, 0, none⟩)) (hl : (loadVar ty ⟨g, 0, none⟩).run Tryz.prog w = .ok (.agg cs) w) :
    (results fn tmps).run Tryz.prog w = .ok (.tuple #[.agg cs, tmps.getD q undef]) w := by
  have hp' : tmps[p]?.getD undef = .pointer (some ⟨g, 0, none⟩) := by simpa using hp
  simp [results, h, hp', asAddr, hl]
theorem load_hd {h : Hd} {C : Nat} {w : World} (a : HdBlk h C w) : (loadVar 66 ⟨C, 0, none⟩).run Tryz.prog w = .ok h.val w :=
  run_loadVar_row (P := Tryz.prog) w C 66 66 h.cellsA (0, 0) _ a Tryz.underlying66 rfl infoHd

theorem setRow_blk {h h2 : Hd} {C : Nat} {w : World} (a : HdBlk h C w) : HdBlk h2 C (w.setRow C h2.cellsA) := setRow_heap w C _ _ _ _ a
theorem grown_setRow (w : World) (C : Nat) (cs : Array Value) : w.grownBy (w.setRow C cs) (some C) :=
  ⟨rfl, rfl, rfl, by simp, fun k _ hk => by
    have hne : k ≠ C := fun e => hk (by rw [e])
    simp only [World.setRow, Array.getElem?_modify]
    rw [if_neg (by omega)]⟩

set_option maxHeartbeats 1000000 in
theorem get_no (l : List UInt8) (hl : l.length ≤ 9223372036854775807) (w : World) (hf : faultN l ≠ 0) :
    Calls Tryz.prog 236 #[.string (str l)] w fun e w' => e = .returned (.tuple #[Hd.zero.val, .int .i64 (faultN l)]) ∧ Below w.heap.size w w' := by
  have HF := Lib.hid (fun w => fault_any l hl w)
  have hfb : (((faultN l : Nat) : Int) != 0) = true := by rw [bne_iff_ne]; omega
  generalize faultN l = f at *
  generalize str l = s at *
  go_enter Tryz.func236, Tryz.ntmps236
  go_upto_region 3 with (go_at_call 266; refine (HF.out _).mono ?_; rintro e w1 ⟨rfl, n, rfl⟩)
  iterate 7 go_step
  refine wpList_store_row rfl 66 _ _ rfl w.heap.size Hd.zero.cellsA rfl rfl 66 Hd.zero.cellsA (heap_alloc_new w _) infoHd rfl (cellsA_one _) ?_
  go_wp2
  have ha : HdBlk Hd.zero w.heap.size ((w.alloc Hd.zero.box).drewN n) := heap_alloc_new w _
  have hb : HdBlk Hd.zero w.heap.size (((w.alloc Hd.zero.box).drewN n).setRow w.heap.size Hd.zero.cellsA) := setRow_blk ha
  refine bodyPost_ret (results_pair Tryz.results236 _ _ w.heap.size Hd.zero.cellsA rfl (load_hd hb)) rfl ⟨rfl, ?_⟩
  exact (bel_trans (bel_alloc w Hd.zero.box) (bel_drewN _ n)).trans ⟨rfl, rfl, rfl, by simp, fun k hk => (grown_setRow _ _ _).block k (by show k < (w.alloc Hd.zero.box).heap.size; simp; omega) (by simp; omega)⟩
end Go.Proofs.YtnhlachoimlhhaaGreatDoor

namespace Go.Proofs.YtnhlachoimlhhaaGreatDoor
open Go.ChangeShapes Go.WideShapes Go.ChangeAt Go.RowKit
set_option linter.unusedVariables false

def hd0 (l : List UInt8) : Hd := { Hd.zero with src := (beNum (l.take 2) : Nat), dst := (beNum ((l.drop 2).take 2) : Nat), off := (beNum ((l.drop 4).take 1) : Nat), cc := (beNum ((l.drop 5).take 1) / 16 : Nat), cs := (beNum ((l.drop 5).take 1) % 16 : Nat), sum := (beNum ((l.drop 6).take 2) : Nat), type := (beNum ((l.drop 8).take 1) / 2 % 16 : Nat), x := decide (beNum ((l.drop 8).take 1) % 2 = 1) }
def hd1 (l : List UInt8) : Hd := { hd0 l with seq := seqOf (hd0 l) (l.drop 9), ack := ackOf (hd0 l) (l.drop 9) }
/-- The head of bytes of which nothing is wrong. -/
def getHd (l : List UInt8) : Hd := (hd1 l).withExtras (l.drop (9 + numsLen (hd0 l)))

theorem size_parts {h : Hd} (hz : sizeN h.type h.x ≠ 0) : sizeN h.type h.x = 9 + numsLen h + extraLen h := by
  rcases type_cases h.type with h' | h' | h' | h' | h' | h' | h' | h' | h' | h' | h' | h'
  · exact absurd (sizeN_out h.x (.inl h')) hz
  · exact absurd (sizeN_out h.x (.inr h')) hz
  all_goals
    unfold numsLen extraLen
    rw [h'] at hz ⊢
    generalize h.x = x at *
    cases x <;> revert hz <;> decide

theorem byteAt_num (l : List UInt8) (i : Nat) (h : i < l.length) : beNum ((l.drop i).take 1) = byteAt l i := by
  have e : (l.drop i).take 1 = [l[i]] := by rw [List.drop_eq_getElem_cons h]; rfl
  rw [e]
  simp [beNum, byteAt, h]

set_option maxHeartbeats 4000000 in
theorem get_yes (l : List UInt8) (hl : l.length ≤ 9223372036854775807) (w : World) (hf : faultN l = 0) :
    Calls Tryz.prog 236 #[.string (str l)] w fun e w' => e = .returned (.tuple #[(getHd l).val, .int .i64 0]) ∧ Below w.heap.size w w' := by
  have HF := Lib.hid (fun w => fault_any l hl w)
  rw [hf] at HF
  have hparts : 12 ≤ l.length ∧ sizeN (hd0 l).type (hd0 l).x ≠ 0 ∧ sizeN (hd0 l).type (hd0 l).x ≤ l.length := by
    unfold faultN at hf
    by_cases h1 : l.length < 12
    · rw [if_pos h1] at hf; cases hf
    rw [if_neg h1] at hf
    have e : beNum ((l.drop 8).take 1) = byteAt l 8 := byteAt_num l 8 (by omega)
    have e1 : (hd0 l).type = (hType l : Nat) := by unfold hd0 hType; simp only [e]
    have e2 : (hd0 l).x = hX l := by unfold hd0 hX; simp only [e]
    rw [e1, e2]
    by_cases h2 : 9 < hType l
    · rw [if_pos h2] at hf; cases hf
    rw [if_neg h2] at hf
    by_cases h3 : sizeN (hType l) (hX l) = 0
    · rw [if_pos h3] at hf; cases hf
    rw [if_neg h3] at hf
    by_cases h4 : l.length < sizeN (hType l) (hX l)
    · rw [if_pos h4] at hf; cases hf
    exact ⟨by omega, h3, by omega⟩
  obtain ⟨hl12, hz, hzl⟩ := hparts
  have hsp := size_parts hz
  rw [hsp] at hzl
  have HZL := Lib.hid hzl
  clear hsp hz hzl hf
  have hstr : ∃ s, str l = s := ⟨_, rfl⟩
  obtain ⟨s, hs⟩ := hstr
  have HS := Lib.hid hs
  rw [hs] at HF ⊢
  clear hs
  go_enter Tryz.func236, Tryz.ntmps236
  go_upto_region 6 with (go_at_call 266; refine (HF.out _).mono ?_; rintro e w1 ⟨rfl, n, rfl⟩)
  have hz : Hd.zero.box = Obj.cells #[Value.int IntKind.i64 0, Value.int IntKind.i64 0, Value.int IntKind.i64 0, Value.int IntKind.i64 0, Value.int IntKind.i64 0, Value.int IntKind.i64 0, Value.int IntKind.i64 0, Value.bool false, Value.int IntKind.u64 0, Value.int IntKind.u64 0, Value.int IntKind.u32 0, Value.int IntKind.i64 0, Value.int IntKind.u8 0, Value.int IntKind.u8 0, Value.int IntKind.u8 0] 66 := rfl
  have hfacts : ∃ W0, W0 = (((w.alloc (Obj.cells #[Value.int IntKind.i64 0, Value.int IntKind.i64 0, Value.int IntKind.i64 0, Value.int IntKind.i64 0, Value.int IntKind.i64 0, Value.int IntKind.i64 0, Value.int IntKind.i64 0, Value.bool false, Value.int IntKind.u64 0, Value.int IntKind.u64 0, Value.int IntKind.u32 0, Value.int IntKind.i64 0, Value.int IntKind.u8 0, Value.int IntKind.u8 0, Value.int IntKind.u8 0] 66)).drewN n).alloc (Obj.cells #[Value.int IntKind.i64 0, Value.int IntKind.i64 0, Value.int IntKind.i64 0, Value.int IntKind.i64 0, Value.int IntKind.i64 0, Value.int IntKind.i64 0, Value.int IntKind.i64 0, Value.bool false, Value.int IntKind.u64 0, Value.int IntKind.u64 0, Value.int IntKind.u32 0, Value.int IntKind.i64 0, Value.int IntKind.u8 0, Value.int IntKind.u8 0, Value.int IntKind.u8 0] 66)).alloc (Obj.cells #[Value.string s] 300) ∧ RdAt l (w.heap.size + 1 + 1) W0 ∧ HdBlk Hd.zero (w.heap.size + 1) W0 ∧ HdBlk Hd.zero w.heap.size W0 ∧ Below w.heap.size w W0 := by
    rw [← hz]
    have s1 : ((w.alloc Hd.zero.box).drewN n).heap.size = w.heap.size + 1 := by show (w.alloc Hd.zero.box).heap.size = _; simp
    have s2 : (((w.alloc Hd.zero.box).drewN n).alloc Hd.zero.box).heap.size = w.heap.size + 1 + 1 := by simp
    have a1 : HdBlk Hd.zero w.heap.size ((w.alloc Hd.zero.box).drewN n) := heap_alloc_new w _
    have a2 : HdBlk Hd.zero (w.heap.size + 1) (((w.alloc Hd.zero.box).drewN n).alloc Hd.zero.box) := by
      have := heap_alloc_new ((w.alloc Hd.zero.box).drewN n) Hd.zero.box
      rwa [s1] at this
    have a3 := heap_alloc_new (((w.alloc Hd.zero.box).drewN n).alloc Hd.zero.box) (Obj.cells #[Value.string s] 300)
    rw [s2] at a3
    refine ⟨_, rfl, ?_, a2.other (World.grownBy_alloc _ _ none) (by simp), (a1.other (World.grownBy_alloc _ _ none) (by simp)).other (World.grownBy_alloc _ _ none) (by simp), ?_⟩
    · unfold RdAt; rw [HS.out]; exact a3
    · exact bel_trans (bel_trans (bel_trans (bel_alloc w Hd.zero.box) (bel_drewN _ n)) (bel_alloc _ _)) (bel_alloc _ _)
  obtain ⟨W0, hW, hr0, hb0, hc0, hbel⟩ := hfacts
  rw [← hW]
  have hRB : w.heap.size + 1 + 1 ≠ w.heap.size + 1 := by omega
  have hCR : w.heap.size ≠ w.heap.size + 1 + 1 := by omega
  have hCB : w.heap.size ≠ w.heap.size + 1 := by omega
  have hwR : w.heap.size ≤ w.heap.size + 1 + 1 := by omega
  have hwB : w.heap.size ≤ w.heap.size + 1 := by omega
  have HBEL := Lib.hid hbel; have HWR := Lib.hid hwR; have HWB := Lib.hid hwB
  clear hW hz hbel hwR hwB
  generalize w.heap.size + 1 + 1 = R at *
  generalize w.heap.size + 1 = B at *
  obtain ⟨C, hCC⟩ : ∃ C, C = w.heap.size := ⟨_, rfl⟩
  rw [← hCC] at hc0 hCR hCB HBEL HWR HWB ⊢
  have HCC := Lib.hid hCC; clear hCC
  have HR0 := Lib.hid hr0; have HB0 := Lib.hid hb0; have HC0 := Lib.hid hc0; have T0 := Lib.hid (Two.refl W0 R B)
  clear hr0 hb0 hc0
  go_wp2_with fail
  refine (takeInt_rd R l 2 _ (by omega) (by omega) (by omega) HR0.out).mono ?_
  rintro e W1 ⟨rfl, hr, hg⟩
  have hb := HB0.out.other hg (by simp; omega)
  have hc := HC0.out.other hg (by simp; omega)
  have d := hb.at_.1
  have f := hb.free 0
  have t := T0.out.grown hg (.inr (.inl rfl))
  generalize hv : beNum (l.take 2) = v0 at *
  have HV0 := Lib.hid hv
  have HR := Lib.hid hr; have HB := Lib.hid hb; have HC := Lib.hid hc; have T := Lib.hid t
  clear hr hb hc t hg hv
  go_upto_region 7 with fail
  have hb1 := HB.out.set { Hd.zero with src := (v0 : Int) } 0 (.int .i64 v0) rfl
  have hr1 := HR.out.other (grown_set W1 B 0 (.int .i64 v0)) (by simp; exact hRB)
  have hc1 := HC.out.other (grown_set W1 B 0 (.int .i64 v0)) (by simp; exact hCB)
  have t1 := T.out.grown (grown_set W1 B 0 (.int .i64 v0)) (.inr (.inr rfl))
  generalize W1.setCell ⟨B, 0, none⟩ (.int .i64 v0) = W2 at *
  have HR1 := Lib.hid hr1; have HB1 := Lib.hid hb1; have HC1 := Lib.hid hc1; have T1 := Lib.hid t1
  clear HR HB HC T hb1 hr1 hc1 t1 d f
  go_wp2_with fail
  refine (takeInt_rd R (l.drop 2) 2 _ (by rw [List.length_drop]; omega) (by omega) (by rw [List.length_drop]; omega) HR1.out).mono ?_
  rintro e W3 ⟨rfl, hr, hg⟩
  rw [List.drop_drop] at hr
  have hb := HB1.out.other hg (by simp; omega)
  have hc := HC1.out.other hg (by simp; omega)
  have d := hb.at_.2.1
  have f := hb.free 1
  have t := T1.out.grown hg (.inr (.inl rfl))
  generalize hv : beNum ((l.drop 2).take 2) = v1 at *
  have HV1 := Lib.hid hv
  have HR := Lib.hid hr; have HB := Lib.hid hb; have HC := Lib.hid hc; have T := Lib.hid t
  clear hr hb hc t hg hv
  go_upto_region 8 with fail
  have hb1 := HB.out.set { Hd.zero with src := (v0 : Int), dst := (v1 : Int) } 1 (.int .i64 v1) rfl
  have hr1 := HR.out.other (grown_set W3 B 1 (.int .i64 v1)) (by simp; exact hRB)
  have hc1 := HC.out.other (grown_set W3 B 1 (.int .i64 v1)) (by simp; exact hCB)
  have t1 := T.out.grown (grown_set W3 B 1 (.int .i64 v1)) (.inr (.inr rfl))
  generalize W3.setCell ⟨B, 1, none⟩ (.int .i64 v1) = W4 at *
  have HR2 := Lib.hid hr1; have HB2 := Lib.hid hb1; have HC2 := Lib.hid hc1; have T2 := Lib.hid t1
  clear HR HB HC T hb1 hr1 hc1 t1 d f
  go_wp2_with fail
  refine (takeInt_rd R (l.drop 4) 1 _ (by rw [List.length_drop]; omega) (by omega) (by rw [List.length_drop]; omega) HR2.out).mono ?_
  rintro e W5 ⟨rfl, hr, hg⟩
  rw [List.drop_drop] at hr
  have hb := HB2.out.other hg (by simp; omega)
  have hc := HC2.out.other hg (by simp; omega)
  have d := hb.at_.2.2.1
  have f := hb.free 2
  have t := T2.out.grown hg (.inr (.inl rfl))
  generalize hv : beNum ((l.drop 4).take 1) = v2 at *
  have HV2 := Lib.hid hv
  have HR := Lib.hid hr; have HB := Lib.hid hb; have HC := Lib.hid hc; have T := Lib.hid t
  clear hr hb hc t hg hv
  go_upto_region 9 with fail
  have hb1 := HB.out.set { Hd.zero with src := (v0 : Int), dst := (v1 : Int), off := (v2 : Int) } 2 (.int .i64 v2) rfl
  have hr1 := HR.out.other (grown_set W5 B 2 (.int .i64 v2)) (by simp; exact hRB)
  have hc1 := HC.out.other (grown_set W5 B 2 (.int .i64 v2)) (by simp; exact hCB)
  have t1 := T.out.grown (grown_set W5 B 2 (.int .i64 v2)) (.inr (.inr rfl))
  generalize W5.setCell ⟨B, 2, none⟩ (.int .i64 v2) = W6 at *
  have HR3 := Lib.hid hr1; have HB3 := Lib.hid hb1; have HC3 := Lib.hid hc1; have T3 := Lib.hid t1
  clear HR HB HC T hb1 hr1 hc1 t1 d f
  go_wp2_with fail
  refine (takeInt_rd R (l.drop 5) 1 _ (by rw [List.length_drop]; omega) (by omega) (by rw [List.length_drop]; omega) HR3.out).mono ?_
  rintro e W7 ⟨rfl, hr, hg⟩
  rw [List.drop_drop] at hr
  have hb := HB3.out.other hg (by simp; omega)
  have hc := HC3.out.other hg (by simp; omega)
  have d1 := hb.at_.2.2.2.1
  have d2 := hb.at_.2.2.2.2.1
  have f1 := hb.free 3
  have f2 := hb.free 4
  have t := T3.out.grown hg (.inr (.inl rfl))
  have hv255 : beNum ((l.drop 5).take 1) ≤ 255 := by have := one_byte (l.drop 5); omega
  have HH := Lib.hid (fun w => halves_any (beNum ((l.drop 5).take 1)) hv255 w)
  generalize hva : beNum ((l.drop 5).take 1) / 16 = va at *
  generalize hvb : beNum ((l.drop 5).take 1) % 16 = vb at *
  have HVA := Lib.hid hva; have HVB := Lib.hid hvb; clear hva hvb
  have HR := Lib.hid hr; have HB := Lib.hid hb; have HC := Lib.hid hc; have T := Lib.hid t
  clear hr hb hc t hg
  go_upto_region 10 with (go_at_call 268; refine (HH.out _).mono ?_; rintro e w1 ⟨rfl, rfl⟩)
  have hb1 := (HB.out.set { Hd.zero with src := (v0 : Int), dst := (v1 : Int), off := (v2 : Int), cc := (va : Int) } 3 (.int .i64 va) rfl).set { Hd.zero with src := (v0 : Int), dst := (v1 : Int), off := (v2 : Int), cc := (va : Int), cs := (vb : Int) } 4 (.int .i64 vb) rfl
  have g2 := (grown_set W7 B 3 (.int .i64 va)).trans (grown_set _ B 4 (.int .i64 vb))
  have hr1 := HR.out.other g2 (by simp; exact hRB)
  have hc1 := HC.out.other g2 (by simp; exact hCB)
  have t1 := T.out.grown g2 (.inr (.inr rfl))
  generalize (W7.setCell ⟨B, 3, none⟩ (.int .i64 va)).setCell ⟨B, 4, none⟩ (.int .i64 vb) = W8 at *
  have HR4 := Lib.hid hr1; have HB4 := Lib.hid hb1; have HC4 := Lib.hid hc1; have T4 := Lib.hid t1
  clear HR HB HC T hb1 hr1 hc1 t1 d1 d2 f1 f2 g2 HH hv255
  go_wp2_with fail
  refine (takeInt_rd R (l.drop 6) 2 _ (by rw [List.length_drop]; omega) (by omega) (by rw [List.length_drop]; omega) HR4.out).mono ?_
  rintro e W9 ⟨rfl, hr, hg⟩
  rw [List.drop_drop] at hr
  have hb := HB4.out.other hg (by simp; omega)
  have hc := HC4.out.other hg (by simp; omega)
  have d := hb.at_.2.2.2.2.2.1
  have f := hb.free 5
  have t := T4.out.grown hg (.inr (.inl rfl))
  generalize hv : beNum ((l.drop 6).take 2) = v4 at *
  have HV4 := Lib.hid hv
  have HR := Lib.hid hr; have HB := Lib.hid hb; have HC := Lib.hid hc; have T := Lib.hid t
  clear hr hb hc t hg hv
  go_upto_region 11 with fail
  have hb1 := HB.out.set { Hd.zero with src := (v0 : Int), dst := (v1 : Int), off := (v2 : Int), cc := (va : Int), cs := (vb : Int), sum := (v4 : Int) } 5 (.int .i64 v4) rfl
  have hr1 := HR.out.other (grown_set W9 B 5 (.int .i64 v4)) (by simp; exact hRB)
  have hc1 := HC.out.other (grown_set W9 B 5 (.int .i64 v4)) (by simp; exact hCB)
  have t1 := T.out.grown (grown_set W9 B 5 (.int .i64 v4)) (.inr (.inr rfl))
  generalize W9.setCell ⟨B, 5, none⟩ (.int .i64 v4) = W10 at *
  have HR5 := Lib.hid hr1; have HB5 := Lib.hid hb1; have HC5 := Lib.hid hc1; have T5 := Lib.hid t1
  clear HR HB HC T hb1 hr1 hc1 t1 d f
  go_wp2_with fail
  refine (takeInt_rd R (l.drop 8) 1 _ (by rw [List.length_drop]; omega) (by omega) (by rw [List.length_drop]; omega) HR5.out).mono ?_
  rintro e W11 ⟨rfl, hr, hg⟩
  rw [List.drop_drop] at hr
  have hb := HB5.out.other hg (by simp; omega)
  have hc := HC5.out.other hg (by simp; omega)
  have d1 := hb.at_.2.2.2.2.2.2.1
  have d2 := hb.at_.2.2.2.2.2.2.2.1
  have f1 := hb.free 6
  have f2 := hb.free 7
  have t := T5.out.grown hg (.inr (.inl rfl))
  have hv255 : beNum ((l.drop 8).take 1) ≤ 255 := by have := one_byte (l.drop 8); omega
  have HH := Lib.hid (fun w => typeOf_any (beNum ((l.drop 8).take 1)) hv255 w)
  generalize hvt : beNum ((l.drop 8).take 1) / 2 % 16 = vt at *
  generalize hvx : decide (beNum ((l.drop 8).take 1) % 2 = 1) = vx at *
  have HVT := Lib.hid hvt; have HVX := Lib.hid hvx; clear hvt hvx
  have HR := Lib.hid hr; have HB := Lib.hid hb; have HC := Lib.hid hc; have T := Lib.hid t
  clear hr hb hc t hg
  go_upto_region 12 with (go_at_call 269; refine (HH.out _).mono ?_; rintro e w1 ⟨rfl, rfl⟩)
  have hb1 := (HB.out.set { Hd.zero with src := (v0 : Int), dst := (v1 : Int), off := (v2 : Int), cc := (va : Int), cs := (vb : Int), sum := (v4 : Int), type := (vt : Int) } 6 (.int .i64 vt) rfl).set { Hd.zero with src := (v0 : Int), dst := (v1 : Int), off := (v2 : Int), cc := (va : Int), cs := (vb : Int), sum := (v4 : Int), type := (vt : Int), x := vx } 7 (.bool vx) rfl
  have g2 := (grown_set W11 B 6 (.int .i64 vt)).trans (grown_set _ B 7 (.bool vx))
  have hr1 := HR.out.other g2 (by simp; exact hRB)
  have hc1 := HC.out.other g2 (by simp; exact hCB)
  have t1 := T.out.grown g2 (.inr (.inr rfl))
  generalize (W11.setCell ⟨B, 6, none⟩ (.int .i64 vt)).setCell ⟨B, 7, none⟩ (.bool vx) = W12 at *
  have HR6 := Lib.hid hr1; have HB6 := Lib.hid hb1; have HC6 := Lib.hid hc1; have T6 := Lib.hid t1
  clear HR HB HC T hb1 hr1 hc1 t1 d1 d2 f1 f2 g2 HH hv255
  go_wp2_with fail
  have hh : HdBlk (hd0 l) B W12 := by
    unfold hd0
    rw [HV0.out, HV1.out, HV2.out, HVA.out, HVB.out, HV4.out, HVT.out, HVX.out]
    exact HB6.out
  have hzl := HZL.out
  have HN := Lib.hid (numbers_any (hd0 l) R B (l.drop 9) W12 hRB (by rw [List.length_drop]; omega) (by rw [List.length_drop]; omega) HR6.out hh)
  clear hh hzl
  refine HN.out.mono ?_
  rintro e W13 ⟨rfl, hr, hb, t13⟩
  rw [List.drop_drop] at hr
  have hc : HdBlk Hd.zero C W13 := by unfold HdBlk; rw [t13.block C HC6.out.lt hCR hCB]; exact HC6.out
  have hb' : HdBlk (hd1 l) B W13 := hb
  have tt : Two W0 W13 R B := ⟨t13.os.trans T6.out.os, t13.tape.trans T6.out.tape, t13.output.trans T6.out.output, Nat.le_trans T6.out.size t13.size, fun k hk h1 h2 => (t13.block k (Nat.lt_of_lt_of_le hk T6.out.size) h1 h2).trans (T6.out.block k hk h1 h2)⟩
  have hxl : extraLen (hd1 l) = extraLen (hd0 l) := rfl
  have hzl := HZL.out
  have HN2 := Lib.hid (extras_any (hd1 l) R B (l.drop (9 + numsLen (hd0 l))) W13 hRB (by rw [List.length_drop]; omega) (by rw [hxl, List.length_drop]; omega) hr hb')
  have HC7 := Lib.hid hc; have T7 := Lib.hid tt
  clear hr hb hb' hc t13 tt hxl hzl
  go_wp2_with fail
  refine HN2.out.mono ?_
  rintro e W14 ⟨rfl, ⟨l14, hr⟩, hb, t14⟩
  have hc : HdBlk Hd.zero C W14 := by unfold HdBlk; rw [t14.block C HC7.out.lt hCR hCB]; exact HC7.out
  have hb' : HdBlk (getHd l) B W14 := hb
  have tt : Two W0 W14 R B := ⟨t14.os.trans T7.out.os, t14.tape.trans T7.out.tape, t14.output.trans T7.out.output, Nat.le_trans T7.out.size t14.size, fun k hk h1 h2 => (t14.block k (Nat.lt_of_lt_of_le hk T7.out.size) h1 h2).trans (T7.out.block k hk h1 h2)⟩
  have HB8 := Lib.hid hb'; have HC8 := Lib.hid hc; have T8 := Lib.hid tt
  clear hr hb hb' hc t14 tt
  go_upto_region 14 with fail
  iterate 1 go_step
  refine wpList_load_row rfl 66 _ rfl B rfl 66 (getHd l).cellsA (0, 0) _ HB8.out Tryz.underlying66 rfl infoHd ?_
  refine wpList_store_row rfl 66 _ _ rfl C (getHd l).cellsA rfl rfl 66 Hd.zero.cellsA HC8.out infoHd rfl (cellsA_one _) ?_
  have hset : HdBlk (getHd l) C (W14.setRow C (getHd l).cellsA) := setRow_blk HC8.out
  have HSET := Lib.hid hset
  have HG := Lib.hid (grown_setRow W14 C (getHd l).cellsA)
  have HLT := Lib.hid HC8.out.lt
  clear hset
  generalize W14.setRow C (getHd l).cellsA = W15 at *
  generalize (getHd l).cellsA = gc at *
  go_wp2
  refine bodyPost_ret (results_pair Tryz.results236 _ _ C _ rfl (load_hd HSET.out)) rfl ⟨rfl, ?_⟩
  rw [← HCC.out]
  have b1 := T8.out.below HWR.out HWB.out (by rw [HCC.out]; exact HBEL.out.size)
  refine (HBEL.out.trans b1).trans ⟨HG.out.os, HG.out.tape, HG.out.output, HG.out.size, fun k hk => HG.out.block k (by have := HLT.out; omega) (by simp; omega)⟩
end Go.Proofs.YtnhlachoimlhhaaGreatDoor
