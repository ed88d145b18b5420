/-
  What the reader takes into a head.
-/
import Derived.Test.YtdlpapchjjbplaaGreatDoorHeadG
namespace Go.Proofs.YtdlpapchjjbplaaGreatDoor
open Go.ChangeShapes Go.WideShapes Go.ChangeAt Go.RowKit
set_option linter.unusedVariables false

theorem and15 : ∀ a : Fin 256, bits .and .i64 (a.val : Int) 15 = ((a.val % 16 : Nat) : Int) := by decide +kernel
theorem and1 : ∀ a : Fin 256, bits .and .i64 (a.val : Int) 1 = ((a.val % 2 : Nat) : Int) := by decide +kernel

theorem halves_any (n : Nat) (hn : n ≤ 255) (w : World) :
    Calls Tryz.prog 63 #[.int .i64 n] w fun e w' => e = .returned (.tuple #[.int .i64 (n / 16 : Nat), .int .i64 (n % 16 : Nat)]) ∧ w = w' := by
  have h15 := and15 ⟨n, by omega⟩
  simp only at h15
  go_enter Tryz.func63, Tryz.ntmps63
  go_wp2
  go_ret2
  exact ⟨M.ret_ints (by simp) (by simp), rfl⟩

theorem ret_tb {a b : Int} {c d : Bool} (h : a = b) (g : c = d) : Ending.returned (.tuple #[.int .i64 a, .bool c]) = .returned (.tuple #[.int .i64 b, .bool d]) := by rw [h, g]
theorem typeOf_any (n : Nat) (hn : n ≤ 255) (w : World) :
    Calls Tryz.prog 64 #[.int .i64 n] w fun e w' => e = .returned (.tuple #[.int .i64 (n / 2 % 16 : Nat), .bool (decide (n % 2 = 1))]) ∧ w = w' := by
  have h15 : bits .and .i64 ((n : Int) / 2) 15 = ((n / 2 % 16 : Nat) : Int) := and15 ⟨n / 2, by omega⟩
  have h1 := and1 ⟨n, by omega⟩
  simp only at h1
  go_enter Tryz.func64, Tryz.ntmps64
  go_wp2
  go_ret2
  exact ⟨ret_tb (by simp) (by rw [Bool.eq_iff_iff]; simp; omega), rfl⟩

/-- The head h, at block B. -/
def HdBlk (h : Hd) (B : Nat) (w : World) : Prop := w.heap[B]? = some h.box
theorem HdBlk.lt {h : Hd} {B : Nat} {w : World} (a : HdBlk h B w) : B < w.heap.size := by
  rcases Nat.lt_or_ge B w.heap.size with hlt | hge
  · exact hlt
  · unfold HdBlk at a; rw [Array.getElem?_eq_none hge] at a; cases a
theorem HdBlk.at_ {h : Hd} {B : Nat} {w : World} (a : HdBlk h B w) : HdAt h B w := by
  unfold HdBlk Hd.box at a
  unfold HdAt
  simp only [cell_of_row w B _ _ _ _ a]
  simp
theorem HdBlk.free {h : Hd} {B : Nat} {w : World} (a : HdBlk h B w) (i : Nat) : w.frozen? ⟨B, i, none⟩ = false := frozen_of_row w B i _ _ a
theorem HdBlk.other {h : Hd} {B : Nat} {w w' : World} {row : Option Nat} (a : HdBlk h B w) (hg : w.grownBy w' row) (hne : some B ≠ row) : HdBlk h B w' := by
  unfold HdBlk; rw [hg.block B a.lt hne]; exact a
def Hd.cellsA (h : Hd) : Array Value := #[.int .i64 h.src, .int .i64 h.dst, .int .i64 h.off, .int .i64 h.cc, .int .i64 h.cs, .int .i64 h.sum, .int .i64 h.type, .bool h.x, .int .u64 h.seq, .int .u64 h.ack, .int .u32 h.service, .int .i64 h.code, .int .u8 h.i0, .int .u8 h.i1, .int .u8 h.i2]
theorem HdBlk.set {h : Hd} {B : Nat} {w : World} (a : HdBlk h B w) (h2 : Hd) (i : Nat) (v : Value) (e : h.cellsA.setIfInBounds i v = h2.cellsA) : HdBlk h2 B (w.setCell ⟨B, i, none⟩ v) := by
  have a1 : w.heap[B]? = some (.cells h.cellsA 39) := a
  have a2 := heap_setCell_same w B i _ _ v a1
  rw [e] at a2
  exact a2

/-- Two blocks alone have turned. -/
structure Two (w w' : World) (R B : Nat) : Prop where
  os : w'.os = w.os
  tape : w'.tape = w.tape
  output : w'.output = w.output
  size : w.heap.size ≤ w'.heap.size
  block : ∀ k, k < w.heap.size → k ≠ R → k ≠ B → w'.heap[k]? = w.heap[k]?
theorem Two.refl (w : World) (R B : Nat) : Two w w R B := ⟨rfl, rfl, rfl, Nat.le_refl _, fun _ _ _ _ => rfl⟩
theorem Two.grown {w w1 w2 : World} {R B : Nat} {row : Option Nat} (h : Two w w1 R B) (g : w1.grownBy w2 row) (hr : row = none ∨ row = some R ∨ row = some B) : Two w w2 R B :=
  ⟨g.os.trans h.os, g.tape.trans h.tape, g.output.trans h.output, Nat.le_trans h.size g.size, fun k hk h1 h2 => by
    rw [g.block k (Nat.lt_of_lt_of_le hk h.size) (by rcases hr with rfl | rfl | rfl <;> simp [h1, h2])]
    exact h.block k hk h1 h2⟩
theorem Two.below {w w' : World} {R B b : Nat} (h : Two w w' R B) (hR : b ≤ R) (hB : b ≤ B) (hb : b ≤ w.heap.size) : Below b w w' :=
  ⟨h.os, h.tape, h.output, h.size, fun k hk => h.block k (by omega) (by omega) (by omega)⟩

/-- A head whose numbers have been taken out of bytes. -/
def numsLen (h : Hd) : Nat := seqPad h.x + numLen h.x + if hasAckB h.type = true then ackPad h.x + numLen h.x else 0
def seqOf (h : Hd) (l : List UInt8) : Nat := beNum ((l.drop (seqPad h.x)).take (numLen h.x))
def ackOf (h : Hd) (l : List UInt8) : Nat := if hasAckB h.type = true then beNum ((l.drop (seqPad h.x + numLen h.x + ackPad h.x)).take (numLen h.x)) else h.ack

theorem numLen_le (x : Bool) : numLen x ≤ 6 ∧ seqPad x ≤ 1 ∧ ackPad x ≤ 2 := by cases x <;> decide

set_option maxHeartbeats 1000000 in
theorem numbers_any (h : Hd) (R B : Nat) (l : List UInt8) (w : World) (hRB : R ≠ B) (hl : l.length ≤ 9223372036854775807) (hn : numsLen h ≤ l.length) (hr : RdAt l R w) (hb : HdBlk h B w) :
    Calls Tryz.prog 65 #[.pointer (some ⟨R, 0, none⟩), .pointer (some ⟨B, 0, none⟩)] w fun e w' => e = .returned (.tuple #[]) ∧ RdAt (l.drop (numsLen h)) R w' ∧ HdBlk { h with seq := seqOf h l, ack := ackOf h l } B w' ∧ Two w w' R B := by
  have hat := hb.at_
  have hfr := hb.free
  have d7 := hat.2.2.2.2.2.2.2.1
  have hnl := numLen_le h.x
  have HR := Lib.hid hr; have HB := Lib.hid hb
  clear hr hb hat hfr
  go_enter Tryz.func65, Tryz.ntmps65
  go_wp2_with (first
    | (go_at_call 91; refine (seqRoom_any _ _).mono ?_; rintro e w1 ⟨rfl, rfl⟩))
  refine (takeFrom_rd R l (seqPad h.x) (numLen h.x) _ (by unfold numsLen at hn; omega) (by omega) (by omega) hl (HR.out.alloc _)).mono ?_
  rintro e w2 ⟨rfl, hr2, hg2⟩
  have hb2 := (HB.out.other (World.grownBy_alloc w (.cells #[.int .i64 (seqPad h.x : Nat), .int .i64 (numLen h.x : Nat)] 116) none) (by simp)).other hg2 (by simp; omega)
  have d8 := hb2.at_.2.2.2.2.2.2.2.2.1
  have f8 := hb2.free 8
  have t2 : Two w w2 R B := ((Two.refl w R B).grown (World.grownBy_alloc w _ none) (.inl rfl)).grown hg2 (.inr (.inl rfl))
  have hsq : beNum ((l.drop (seqPad h.x)).take (numLen h.x)) = seqOf h l := rfl
  rw [hsq]
  generalize hsv : seqOf h l = sv at *
  have HR2 := Lib.hid hr2; have HB2 := Lib.hid hb2; have T2 := Lib.hid t2; have HSV := Lib.hid hsv
  clear hr2 hb2 t2 hg2 hsq hsv
  go_upto_region 1 with fail
  have hb3 := HB2.out.set { h with seq := sv } 8 (.int .u64 sv) rfl
  have hr3 : RdAt (l.drop (seqPad h.x + numLen h.x)) R (w2.setCell ⟨B, 8, none⟩ (.int .u64 sv)) := HR2.out.other (grown_set w2 B 8 _) (by simp; exact hRB)
  have t3 : Two w (w2.setCell ⟨B, 8, none⟩ (.int .u64 sv)) R B := T2.out.grown (grown_set w2 B 8 _) (.inr (.inr rfl))
  generalize w2.setCell ⟨B, 8, none⟩ (.int .u64 sv) = w3 at *
  have e6 := hb3.at_.2.2.2.2.2.2.1
  have e7 := hb3.at_.2.2.2.2.2.2.2.1
  have HR3 := Lib.hid hr3; have HB3 := Lib.hid hb3; have T3 := Lib.hid t3
  clear d7 d8 f8 hb3 hr3 t3
  simp only at e6 e7
  by_cases ha : hasAckB h.type = true
  · have HA := Lib.hid (fun w => hasAck_any h.type w)
    rw [ha] at HA
    have hav : ackOf h l = beNum ((l.drop (seqPad h.x + numLen h.x + ackPad h.x)).take (numLen h.x)) := by unfold ackOf; rw [if_pos ha]
    have hnn : numsLen h = seqPad h.x + numLen h.x + (ackPad h.x + numLen h.x) := by unfold numsLen; rw [if_pos ha]
    have HAV := Lib.hid hav; have HNN := Lib.hid hnn
    have hlk : seqPad h.x + numLen h.x + (ackPad h.x + numLen h.x) ≤ l.length := by omega
    clear ha hav hnn hn
    go_wp2_with (first
      | (go_at_call 25; refine (HA.out _).mono ?_; rintro e w1 ⟨rfl, rfl⟩)
      | (go_at_call 92; refine (ackRoom_any _ _).mono ?_; rintro e w1 ⟨rfl, rfl⟩))
    refine (takeFrom_rd R (l.drop (seqPad h.x + numLen h.x)) (ackPad h.x) (numLen h.x) _ (by rw [List.length_drop]; omega) (by omega) (by omega) (by rw [List.length_drop]; omega) (HR3.out.alloc _)).mono ?_
    rintro e w4 ⟨rfl, hr4, hg4⟩
    have hb4 := (HB3.out.other (World.grownBy_alloc w3 (.cells #[.int .i64 (ackPad h.x : Nat), .int .i64 (numLen h.x : Nat)] 116) none) (by simp)).other hg4 (by simp; omega)
    have d9 := hb4.at_.2.2.2.2.2.2.2.2.2.1
    have f9 := hb4.free 9
    have t4 : Two w w4 R B := (T3.out.grown (World.grownBy_alloc w3 _ none) (.inl rfl)).grown hg4 (.inr (.inl rfl))
    rw [List.drop_drop] at hr4
    rw [List.drop_drop, ← HAV.out]
    generalize hav : ackOf h l = av at *
    have HR4 := Lib.hid hr4; have HB4 := Lib.hid hb4; have T4 := Lib.hid t4; have HAV2 := Lib.hid hav
    clear hr4 hb4 t4 hg4 hav e6 e7
    simp only at d9
    go_wp2
    go_end0
    refine ⟨rfl, ?_, ?_, T4.out.grown (grown_set w4 B 9 _) (.inr (.inr rfl))⟩
    · rw [HNN.out]
      exact RdAt.other (by first | exact HR4.out | (have := HR4.out; rwa [Nat.add_assoc] at this)) (grown_set w4 B 9 _) (by simp; exact hRB)
    · rw [HSV.out, HAV2.out]
      exact HB4.out.set { h with seq := sv, ack := av } 9 (.int .u64 av) rfl
  · have HA := Lib.hid (fun w => hasAck_any h.type w)
    rw [Bool.eq_false_iff.2 ha] at HA
    have hav : ackOf h l = h.ack := by unfold ackOf; rw [if_neg ha]
    have hnn : numsLen h = seqPad h.x + numLen h.x := by unfold numsLen; rw [if_neg ha]; rfl
    have HAV := Lib.hid hav; have HNN := Lib.hid hnn
    clear ha hav hnn hn
    go_wp2_with (first
      | (go_at_call 25; refine (HA.out _).mono ?_; rintro e w1 ⟨rfl, rfl⟩))
    go_end0
    exact ⟨rfl, by rw [HNN.out]; exact HR3.out, by rw [HAV.out, HSV.out]; exact HB3.out, T3.out⟩
end Go.Proofs.YtdlpapchjjbplaaGreatDoor
