/-
  Packets: a head laid bare, how large, how much is covered.
  What pkt.Put answers: the plain functions, and laws on heads' bytes.
  What pkt.Get answers: the plain functions; a packet's cells.
  pkt.Get's walk.
  pkt.Put's walk.
-/
import Derived.Test.YtnhlachoimlhhaaGreatDoorOpB
import Derived.Test.YtnhlachoimlhhaaGreatDoorSumM
import Derived.Deep.MidRow
import Derived.Test.YtnhlachoimlhhaaGreatDoorHdB
import Derived.StillTailTactics
import Derived.BigQuiet
import Derived.Deep.DeepFit
import Derived.Deep.RegionHeld3
namespace Go.Proofs.YtnhlachoimlhhaaGreatDoor
open Go.ChangeShapes Go.WideShapes Go.ChangeAt Go.RowKit
set_option linter.unusedVariables false

def Hd.bare (h : Hd) : Hd := { h with off := (sizeN h.type h.x / 4 : Nat), sum := 0 }

theorem load_blk {ops : Array Oper} {rest : List Oper} {o : Oper} {a : Act} {w : World} {Q : Exit → Act → World → Prop} (hgd : o.guard = none) (x : Operand) (ho : o.op = .load 66 x)
    (C : Nat) (hx : a.eval x = .pointer (some ⟨C, 0, none⟩)) (h : Hd) (hb : HdBlk h C w)
    (hh : wpList Tryz.prog ops Q rest (a.put o.dst h.val) w) : wpList Tryz.prog ops Q (o :: rest) a w :=
  wpList_load_row hgd 66 x ho C hx 66 h.cellsA (0, 0) _ hb Tryz.underlying66 rfl infoHd hh

theorem store_blk {ops : Array Oper} {rest : List Oper} {o : Oper} {a : Act} {w : World} {Q : Exit → Act → World → Prop} (hgd : o.guard = none) (x y : Operand) (ho : o.op = .store 66 x y)
    (C : Nat) (h h2 : Hd) (hx : a.eval x = .pointer (some ⟨C, 0, none⟩)) (hy : a.eval y = h2.val) (hb : HdBlk h C w)
    (hh : ∀ w', HdBlk h2 C w' → w.grownBy w' (some C) → wpList Tryz.prog ops Q rest (a.put o.dst undef) w') : wpList Tryz.prog ops Q (o :: rest) a w :=
  wpList_store_row hgd 66 x y ho C h2.cellsA hx hy 66 h.cellsA hb infoHd rfl (cellsA_one _) (hh _ (setRow_blk hb) (grown_setRow _ _ _))

theorem results_hd {fn : Func} {p : Tmp} (h : fn.results = #[.cell p 66]) (tmps : Array Value) (w : World) (g : Nat) (hd : Hd) (hp : tmps.getD p undef = .pointer (some ⟨g, 0, none⟩)) (hb : HdBlk hd g w) :
    (results fn tmps).run Tryz.prog w = .ok hd.val w :=
  results_cell_row h tmps w g 66 hd.cellsA (0, 0) _ hp hb Tryz.underlying66 rfl infoHd

set_option maxHeartbeats 1000000 in
set_option maxRecDepth 100000 in
theorem bare_any (h : Hd) (w : World) :
    Calls Tryz.prog 230 #[h.val] w fun e w' => e = .returned h.bare.val ∧ Below w.heap.size w w' := by
  have HSZ := Lib.hid (fun w => size_any h.type h.x w)
  have hs := sizeN_le h.type h.x
  have HBR : Hid (h.bare = { h with off := (sizeN h.type h.x / 4 : Nat), sum := 0 }) := Lib.hid rfl
  generalize sizeN h.type h.x = n at *
  have hz : Hd.zero.box = Obj.cells #[Value.int IntKind.i64 0, Value.int IntKind.i64 0, Value.int IntKind.i64 0, Value.int IntKind.i64 0, Value.int IntKind.i64 0, Value.int IntKind.i64 0, Value.int IntKind.i64 0, Value.bool false, Value.int IntKind.u64 0, Value.int IntKind.u64 0, Value.int IntKind.u32 0, Value.int IntKind.i64 0, Value.int IntKind.u8 0, Value.int IntKind.u8 0, Value.int IntKind.u8 0] 66 := rfl
  have s1 : ∀ b, (w.alloc b).heap.size = w.heap.size + 1 := fun b => by simp
  have HA : Hid (HdBlk h w.heap.size ((w.alloc h.box).alloc Hd.zero.box) ∧ HdBlk Hd.zero (w.heap.size + 1) ((w.alloc h.box).alloc Hd.zero.box) ∧ Below w.heap.size w ((w.alloc h.box).alloc Hd.zero.box)) := by
    refine Lib.hid ⟨(show HdBlk h w.heap.size (w.alloc h.box) from heap_alloc_new w _).other (World.grownBy_alloc _ _ none) (by simp), ?_, bel_trans (bel_alloc _ _) (bel_alloc _ _)⟩
    have := heap_alloc_new (w.alloc h.box) Hd.zero.box
    rwa [s1] at this
  rw [hz] at HA
  unfold Hd.box at HA
  clear hz s1
  unfold Hd.val
  go_enter Tryz.func230, Tryz.ntmps230
  go_upto_region 1 with fail
  obtain ⟨hb, hc, hbel⟩ := HA.out
  clear HA
  obtain ⟨B, hB⟩ : ∃ B, B = w.heap.size := ⟨_, rfl⟩
  rw [← hB] at hb hc ⊢
  generalize ((w.alloc (Obj.cells #[.int .i64 h.src, .int .i64 h.dst, .int .i64 h.off, .int .i64 h.cc, .int .i64 h.cs, .int .i64 h.sum, .int .i64 h.type, .bool h.x, .int .u64 h.seq, .int .u64 h.ack, .int .u32 h.service, .int .i64 h.code, .int .u8 h.i0, .int .u8 h.i1, .int .u8 h.i2] 66)).alloc _) = W0 at *
  have c6 := hb.at_.2.2.2.2.2.2.1
  have c7 := hb.at_.2.2.2.2.2.2.2.1
  have c2 := hb.at_.2.2.1
  have f2 := hb.free 2
  have HB := Lib.hid hb; have HC := Lib.hid hc; have HBEL := Lib.hid hbel; have HBB := Lib.hid hB
  clear hb hc hbel hB
  go_upto_region 2 with (go_at_call 211; refine (HSZ.out _).mono ?_; rintro e w1 ⟨rfl, rfl⟩)
  have hb1 := HB.out.set { h with off := (n / 4 : Nat) } 2 (.int .i64 ((n / 4 : Nat) : Int)) rfl
  have hc1 := HC.out.other (grown_set W0 B 2 (.int .i64 ((n / 4 : Nat) : Int))) (by simp)
  have g1 := grown_set W0 B 2 (.int .i64 ((n / 4 : Nat) : Int))
  rw [show (((n / 4 : Nat) : Int)) = (n : Int) / 4 by simp] at hb1 hc1 g1
  generalize W0.setCell ⟨B, 2, none⟩ (.int .i64 ((n : Int) / 4)) = W1 at *
  have f5 := hb1.free 5
  have c5 := hb1.at_.2.2.2.2.2.1
  have HB1 := Lib.hid hb1; have HC1 := Lib.hid hc1; have HG1 := Lib.hid g1
  clear hb1 hc1 g1 c6 c7 c2 f2 HB HC
  go_upto_region 3 with fail
  have hb2 := HB1.out.set { h with off := (n : Int) / 4, sum := 0 } 5 (.int .i64 0) rfl
  have hc2 := HC1.out.other (grown_set W1 B 5 (.int .i64 0)) (by simp)
  have g2 := HG1.out.trans (grown_set W1 B 5 (.int .i64 0))
  generalize W1.setCell ⟨B, 5, none⟩ (.int .i64 0) = W2 at *
  have HB2 := Lib.hid hb2; have HC2 := Lib.hid hc2; have HG2 := Lib.hid g2
  clear hb2 hc2 g2 f5 c5 HB1 HC1 HG1
  iterate 1 go_step
  refine load_blk rfl _ rfl B rfl _ HB2.out ?_
  refine store_blk rfl _ _ rfl (B + 1) _ { h with off := (n : Int) / 4, sum := 0 } rfl rfl HC2.out ?_
  intro W3 hb3 hg3
  have HB3 := Lib.hid hb3; have HG3 := Lib.hid hg3
  clear hb3 hg3
  go_wp2
  refine bodyPost_ret (results_hd Tryz.results230 _ _ (B + 1) _ rfl HB3.out) rfl ⟨?_, ?_⟩
  · rw [HBR.out]; simp; rfl
  · have h1 : Below w.heap.size w W2 := HBEL.out.grown HG2.out HBEL.out.size (fun k hk => by cases hk; rw [HBB.out]; exact Nat.le_refl _)
    exact h1.grown HG3.out h1.size (fun k hk => by cases hk; rw [HBB.out]; omega)

def largeB (o d : Nat) : Bool := decide (255 < o ∨ 1400 < d ∨ 2500 < 4 * o + d)
theorem isLarge_any (o d : Nat) (ho : o ≤ 1000000000000) (hd : d ≤ 9223372036854775807) (w : World) :
    Calls Tryz.prog 233 #[.int .i64 o, .int .i64 d] w fun e w' => e = .returned (.bool (largeB o d)) ∧ w = w' := by
  have HL : Hid (largeB o d = decide (255 < o ∨ 1400 < d ∨ 2500 < 4 * o + d)) := Lib.hid rfl
  by_cases h1 : 255 < o
  · have d1 := decide_eq_true h1
    have HR : Hid (largeB o d = true) := Lib.hid (by rw [HL.out]; exact decide_eq_true (.inl h1))
    go_enter Tryz.func233, Tryz.ntmps233
    go_wp2
    go_ret
    exact ⟨ret_boolE (by rw [HR.out]), rfl⟩
  have d1 := decide_eq_false h1
  by_cases h2 : 1400 < d
  · have d2 := decide_eq_true h2
    have HR : Hid (largeB o d = true) := Lib.hid (by rw [HL.out]; exact decide_eq_true (.inr (.inl h2)))
    go_enter Tryz.func233, Tryz.ntmps233
    go_wp2
    go_ret
    exact ⟨ret_boolE (by rw [HR.out]), rfl⟩
  have d2 := decide_eq_false h2
  have HR : Hid (largeB o d = (decide (255 < (o : Int)) || decide (1400 < (d : Int)) || decide ((2500 : Int) < 4 * (o : Int) + d))) := Lib.hid (by
    rw [HL.out, decide_eq_false (p := 255 < (o : Int)) (by omega), decide_eq_false (p := 1400 < (d : Int)) (by omega), Bool.false_or, Bool.false_or, decide_eq_decide]; omega)
  go_enter Tryz.func233, Tryz.ntmps233
  go_wp2
  go_ret
  exact ⟨ret_boolE (by rw [HR.out]), rfl⟩

theorem covered_hd (h : Hd) (t : Int) (w : World) (t1 : -9223372036854775808 ≤ t) (t2 : t ≤ 9223372036854775807) (o1 : 0 ≤ h.off) (o2 : h.off ≤ 1000000000) (c1 : -9223372036854775808 ≤ h.cs) (c2 : h.cs ≤ 9223372036854775807) :
    Calls Tryz.prog 235 #[h.val, .int .i64 t] w fun e w' => e = .returned (.tuple #[.int .i64 (covI t (4 * h.off) h.cs), .bool (covB t (4 * h.off) h.cs)]) ∧ Below w.heap.size w w' := by
  have HC := Lib.hid (fun w => covered_any t (4 * h.off) h.cs t1 t2 (by omega) (by omega) c1 c2 w)
  unfold Hd.val
  go_enter Tryz.func235, Tryz.ntmps235
  go_wp2_with (go_at_call 265; refine (HC.out _).mono ?_; rintro e w1 ⟨rfl, rfl⟩)
  go_ret2
  exact ⟨rfl, bel_alloc _ _⟩
end Go.Proofs.YtnhlachoimlhhaaGreatDoor

namespace Go.Proofs.YtnhlachoimlhhaaGreatDoor
open Go.ChangeShapes Go.WideShapes Go.ChangeAt Go.RowKit
set_option linter.unusedVariables false

/-- A head's numbers are of their kinds. -/
structure Hd.ok (h : Hd) : Prop where
  seq : h.seq < 18446744073709551616
  ack : h.ack < 18446744073709551616
  service : h.service < 4294967296
  i0 : h.i0 < 256
  i1 : h.i1 < 256
  i2 : h.i2 < 256

def offN (h : Hd) (os : List M.Opt) : Nat := sizeN h.type h.x / 4 + (M.putOpts os).length / 4
/-- The head with its Off, not yet summed. -/
def Hd.off1 (h : Hd) (os : List M.Opt) : Hd := { h.bare with off := (offN h os : Nat) }
/-- Which error pkt.Put answers; 0: none. -/
def putErr (h : Hd) (os : List M.Opt) (d : List UInt8) : Nat :=
  if h.bare.mayB = false then 3 else if (M.putOpts os).length = 0 ∧ 0 < os.length then 7
  else if largeB (offN h os) d.length = true then 13
  else if covB (4 * offN h os + d.length : Nat) (4 * offN h os : Nat) h.cs = false then 5 else 0
def covLen (h : Hd) (os : List M.Opt) (d : List UInt8) : Nat := (covI (4 * offN h os + d.length : Nat) (4 * offN h os : Nat) h.cs).toNat - 4 * offN h os
def pkSum (h : Hd) (os : List M.Opt) (d : List UInt8) : Nat := M.sum16 ((h.off1 os).bytes ++ M.putOpts os ++ d.take (covLen h os d))
def pkHead (h : Hd) (os : List M.Opt) (d : List UInt8) : Hd := { h.off1 os with sum := (pkSum h os d : Nat) }
def pkBytes (h : Hd) (os : List M.Opt) (d : List UInt8) : List UInt8 := (pkHead h os d).bytes ++ M.putOpts os ++ d
def putText (h : Hd) (os : List M.Opt) (d : List UInt8) : List UInt8 := if putErr h os d = 0 then pkBytes h os d else []

theorem sizeN_four (t : Int) (x : Bool) : sizeN t x % 4 = 0 := by
  unfold sizeN; (repeat' split) <;> omega

theorem bytes_len {h : Hd} (hm : h.mayB = true) : h.bytes.length = sizeN h.type h.x := by
  have hz : sizeN h.type h.x ≠ 0 := by
    unfold Hd.mayB at hm; simp only [Bool.and_eq_true] at hm; exact of_decide_eq_true hm.1
  have hp := size_parts hz
  have e1 : h.seqBytes.length = seqPad h.x + numLen h.x := by unfold Hd.seqBytes; rw [beBytes_length]
  have e2 : h.ackBytes.length = if hasAckB h.type = true then ackPad h.x + numLen h.x else 0 := by
    unfold Hd.ackBytes; split
    · rw [beBytes_length]
    · rfl
  have e3 : h.extraBytes.length = extraLen h := by
    unfold Hd.extraBytes extraLen; split
    · rw [beBytes_length]
    · split
      · rw [List.length_append, beBytes_length]; rfl
      · rfl
  rw [hp]
  unfold Hd.bytes numsLen
  simp only [List.length_append, beBytes_length, e1, e2, e3]

theorem mayB_with {h : Hd} (hm : h.mayB = true) (o s : Nat) (ho : sizeN h.type h.x / 4 ≤ o) (ho2 : o ≤ 255) (hs : s ≤ 65535) : ({ h with off := (o : Int), sum := (s : Int) } : Hd).mayB = true := by
  unfold Hd.mayB at hm ⊢
  simp only [Bool.and_eq_true] at hm ⊢
  obtain ⟨a1, a2, a3, a4, a5, a6, a7, a8⟩ := hm
  refine ⟨a1, a2, a3, ?_, a5, a6, ?_, a8⟩
  · show btw ((sizeN h.type h.x / 4 : Nat) : Int) (o : Int) 255 = true
    unfold btw; rw [Bool.and_eq_true]; exact ⟨decide_eq_true (by omega), decide_eq_true (by omega)⟩
  · show btw 0 (s : Int) 65535 = true
    unfold btw; rw [Bool.and_eq_true]; exact ⟨decide_eq_true (by omega), decide_eq_true (by omega)⟩

theorem off1_may {h : Hd} {os : List M.Opt} (hm : h.bare.mayB = true) (ho : offN h os ≤ 255) : (h.off1 os).mayB = true := by
  have := mayB_with hm (offN h os) 0 (by show sizeN h.type h.x / 4 ≤ _; unfold offN; omega) ho (by omega)
  exact this
theorem pkHead_may {h : Hd} {os : List M.Opt} {d : List UInt8} (hm : h.bare.mayB = true) (ho : offN h os ≤ 255) : (pkHead h os d).mayB = true := by
  have := mayB_with hm (offN h os) (pkSum h os d) (by show sizeN h.type h.x / 4 ≤ _; unfold offN; omega) ho (by unfold pkSum M.sum16; omega)
  exact this
theorem off1_len {h : Hd} {os : List M.Opt} (hm : h.bare.mayB = true) (ho : offN h os ≤ 255) : (h.off1 os).bytes.length = sizeN h.type h.x := bytes_len (off1_may hm ho)
theorem putOpts_len4 (os : List M.Opt) : (M.putOpts os).length % 4 = 0 := by
  unfold M.putOpts; split
  · exact (M.pad4_len _).1
  · rfl
theorem ahead_len {h : Hd} {os : List M.Opt} (hm : h.bare.mayB = true) (ho : offN h os ≤ 255) : ((h.off1 os).bytes ++ M.putOpts os).length = 4 * offN h os := by
  have h1 := sizeN_four h.type h.x
  have h2 := putOpts_len4 os
  rw [List.length_append, off1_len hm ho]
  unfold offN; omega
theorem putOpts_le (os : List M.Opt) (h : os.length ≤ 1073741824) : (M.putOpts os).length ≤ 273804165123 := by
  unfold M.putOpts; split
  · rename_i ha
    have h1 := (M.pad4_len (M.optsBytes os)).2.2
    have h2 := M.optsBytes_len os ha
    omega
  · simp

def Pv (h : Hd) (v : Value) (s : ByteArray) : Value := .agg #[.int .i64 h.src, .int .i64 h.dst, .int .i64 h.off, .int .i64 h.cc, .int .i64 h.cs, .int .i64 h.sum, .int .i64 h.type, .bool h.x, .int .u64 h.seq, .int .u64 h.ack, .int .u32 h.service, .int .i64 h.code, .int .u8 h.i0, .int .u8 h.i1, .int .u8 h.i2, v, .string s]
def pkCells (h : Hd) (v : Value) (s : ByteArray) : Array Value := #[.int .i64 h.src, .int .i64 h.dst, .int .i64 h.off, .int .i64 h.cc, .int .i64 h.cs, .int .i64 h.sum, .int .i64 h.type, .bool h.x, .int .u64 h.seq, .int .u64 h.ack, .int .u32 h.service, .int .i64 h.code, .int .u8 h.i0, .int .u8 h.i1, .int .u8 h.i2, v, .string s]
def PkBox (h : Hd) (v : Value) (s : ByteArray) : Obj := .cells (pkCells h v s) 68
/-- The packet at block B. -/
def PkBlk (h : Hd) (v : Value) (s : ByteArray) (B : Nat) (w : World) : Prop := w.heap[B]? = some (PkBox h v s)
theorem PkBlk.cells {h : Hd} {v : Value} {s : ByteArray} {B : Nat} {w : World} (a : PkBlk h v s B w) : w.cell? ⟨B, 15, none⟩ = some v ∧ w.cell? ⟨B, 16, none⟩ = some (.string s) := by
  unfold PkBlk PkBox at a
  simp only [cell_of_row w B _ _ _ _ a]
  exact ⟨rfl, rfl⟩
theorem PkBlk.range {h : Hd} {v : Value} {s : ByteArray} {B : Nat} {w : World} (a : PkBlk h v s B w) : w.rangeAt B 0 h.cellsA.toList := by
  intro j u hj
  unfold PkBlk PkBox at a
  rw [cell_of_row w B _ _ _ _ a, Nat.zero_add]
  have hl : j < 15 := by
    rcases Nat.lt_or_ge j 15 with h | h
    · exact h
    · rw [List.getElem?_eq_none (by show 15 ≤ j; exact h)] at hj; cases hj
  have : j = 0 ∨ j = 1 ∨ j = 2 ∨ j = 3 ∨ j = 4 ∨ j = 5 ∨ j = 6 ∨ j = 7 ∨ j = 8 ∨ j = 9 ∨ j = 10 ∨ j = 11 ∨ j = 12 ∨ j = 13 ∨ j = 14 := by omega
  rcases this with rfl | rfl | rfl | rfl | rfl | rfl | rfl | rfl | rfl | rfl | rfl | rfl | rfl | rfl | rfl <;> exact hj
theorem PkBlk.lt {h : Hd} {v : Value} {s : ByteArray} {B : Nat} {w : World} (a : PkBlk h v s B w) : B < w.heap.size := by
  rcases Nat.lt_or_ge B w.heap.size with hlt | hge
  · exact hlt
  · unfold PkBlk at a; rw [Array.getElem?_eq_none hge] at a; cases a
theorem PkBlk.other {h : Hd} {v : Value} {s : ByteArray} {B : Nat} {w w' : World} {row : Option Nat} (a : PkBlk h v s B w) (hg : w.grownBy w' row) (hne : some B ≠ row) : PkBlk h v s B w' := by
  unfold PkBlk; rw [hg.block B a.lt hne]; exact a
theorem PkBlk.below {h : Hd} {v : Value} {s : ByteArray} {B : Nat} {w w' : World} (a : PkBlk h v s B w) (hb : Below w.heap.size w w') : PkBlk h v s B w' := by
  unfold PkBlk; rw [hb.block B a.lt]; exact a
theorem PkBlk.new (h : Hd) (v : Value) (s : ByteArray) (w : World) : PkBlk h v s w.heap.size (w.alloc (PkBox h v s)) := heap_alloc_new w _
theorem HdBlk.below {h : Hd} {B : Nat} {w w' : World} (a : HdBlk h B w) (hb : Below w.heap.size w w') : HdBlk h B w' := by
  unfold HdBlk; rw [hb.block B a.lt]; exact a

theorem load_mid {ops : Array Oper} {rest : List Oper} {o : Oper} {a : Act} {w : World} {Q : Exit → Act → World → Prop} (hgd : o.guard = none) (x : Operand) (ho : o.op = .load 66 x)
    (B : Nat) (hx : a.eval x = .pointer (some ⟨B, 0, none⟩)) (h : Hd) (v : Value) (s : ByteArray) (hb : PkBlk h v s B w)
    (hh : wpList Tryz.prog ops Q rest (a.put o.dst h.val) w) : wpList Tryz.prog ops Q (o :: rest) a w :=
  wpList_load_mid hgd 66 x ho B 0 hx h.cellsA.toList _ hb.range Tryz.underlying66 rfl infoHd hh
end Go.Proofs.YtnhlachoimlhhaaGreatDoor

namespace Go.Proofs.YtnhlachoimlhhaaGreatDoor
open Go.ChangeShapes Go.WideShapes Go.ChangeAt Go.RowKit
set_option linter.unusedVariables false

def getOff (l : List UInt8) : Nat := byteAt l 4 * 4
def getSize (l : List UInt8) : Nat := sizeN (getHd l).type (getHd l).x
def getCov (l : List UInt8) : Int := covI l.length (getOff l : Nat) (getHd l).cs
def getOs (l : List UInt8) : Option (List M.Opt) := M.getOpts ((l.take (getOff l)).drop (getSize l))
/-- Which error pkt.Get answers; 0: none. -/
def getErr (l : List UInt8) : Nat :=
  if 2500 < l.length then 13 else if faultN l ≠ 0 then faultN l
  else if covB l.length (getOff l : Nat) (getHd l).cs = false then 5
  else if M.sum16 (l.take (getCov l).toNat) ≠ 0 then 6
  else if getOs l = none then 7 else 0

theorem getHd_off {l : List UInt8} (h : 12 ≤ l.length) : (getHd l).off = (byteAt l 4 : Nat) ∧ (getHd l).cs = (byteAt l 5 % 16 : Nat) ∧ (getHd l).type = (hType l : Nat) ∧ (getHd l).x = hX l := by
  have e4 := byteAt_num l 4 (by omega)
  have e5 := byteAt_num l 5 (by omega)
  have e8 := byteAt_num l 8 (by omega)
  have h0 : (getHd l).off = (hd0 l).off ∧ (getHd l).cs = (hd0 l).cs ∧ (getHd l).type = (hd0 l).type ∧ (getHd l).x = (hd0 l).x := by
    unfold getHd Hd.withExtras
    split
    · exact ⟨rfl, rfl, rfl, rfl⟩
    · split
      · exact ⟨rfl, rfl, rfl, rfl⟩
      · exact ⟨rfl, rfl, rfl, rfl⟩
  rw [h0.1, h0.2.1, h0.2.2.1, h0.2.2.2]
  unfold hd0 hType hX
  refine ⟨?_, ?_, ?_, ?_⟩ <;> simp [e4, e5, e8]

/-- Where nothing is wrong with a head the data begin behind it and within the bytes. -/
theorem fault_facts {l : List UInt8} (hf : faultN l = 0) : 12 ≤ l.length ∧ sizeN (hType l) (hX l) ≠ 0 ∧ sizeN (hType l) (hX l) ≤ getOff l ∧ getOff l ≤ l.length ∧ hType l ≤ 9 := by
  have h4 := sizeN_four (hType l) (hX l)
  unfold faultN at hf
  unfold getOff
  by_cases h1 : l.length < 12
  · rw [if_pos h1] at hf; cases hf
  rw [if_neg h1] at hf
  by_cases h2 : 9 < hType l
  · rw [if_pos h2] at hf; cases hf
  rw [if_neg h2] at hf
  by_cases h3 : sizeN (hType l) (hX l) = 0
  · rw [if_pos h3] at hf; cases hf
  rw [if_neg h3] at hf
  by_cases h5 : l.length < sizeN (hType l) (hX l)
  · rw [if_pos h5] at hf; cases hf
  rw [if_neg h5] at hf
  by_cases h6 : byteAt l 4 < sizeN (hType l) (hX l) / 4 ∨ l.length < byteAt l 4 * 4
  · rw [if_pos h6] at hf; cases hf
  exact ⟨by omega, h3, by omega, by omega, by omega⟩

theorem infoPk : (Tryz.prog.info? 68).map (·.size) = some 17 := by kernel_rfl
theorem pkCells_one (h : Hd) (a : Option Addr) (n c : Nat) (s : ByteArray) : (pkCells h (.slice a n c) s).all (·.oneCell') = true := by simp [pkCells, Value.oneCell']
theorem store_pk {ops : Array Oper} {rest : List Oper} {o : Oper} {a : Act} {w : World} {Q : Exit → Act → World → Prop} (hgd : o.guard = none) (x y : Operand) (ho : o.op = .store 68 x y)
    (C : Nat) (h h2 : Hd) (v : Value) (s s2 : ByteArray) (va : Option Addr) (vn vc : Nat) (hx : a.eval x = .pointer (some ⟨C, 0, none⟩)) (hy : a.eval y = Pv h2 (.slice va vn vc) s2) (hb : PkBlk h v s C w)
    (hh : ∀ w', PkBlk h2 (.slice va vn vc) s2 C w' → w.grownBy w' (some C) → wpList Tryz.prog ops Q rest (a.put o.dst undef) w') : wpList Tryz.prog ops Q (o :: rest) a w :=
  wpList_store_row hgd 68 x y ho C (pkCells h2 (.slice va vn vc) s2) hx hy 68 (pkCells h v s) hb infoPk rfl (pkCells_one _ _ _ _ _) (hh _ (setRow_heap w C _ _ _ _ hb) (grown_setRow _ _ _))
theorem load_pkv {h : Hd} {v : Value} {s : ByteArray} {C : Nat} {w : World} (a : PkBlk h v s C w) : (loadVar 68 ⟨C, 0, none⟩).run Tryz.prog w = .ok (Pv h v s) w :=
  run_loadVar_row (P := Tryz.prog) w C 68 68 (pkCells h v s) (0, 0) _ a Tryz.underlying68 rfl infoPk
theorem get_end {h : Hd} {v : Value} {s : ByteArray} {C : Nat} {n : Int} {tmps : Array Value} {w : World} (a : PkBlk h v s C w) (hp : tmps.getD 2 undef = .pointer (some ⟨C, 0, none⟩)) (hq : tmps.getD 3 undef = .int .i64 n) :
    (results Tryz.f207 tmps).run Tryz.prog w = .ok (.tuple #[Pv h v s, .int .i64 n]) w := by
  rw [results_pair (fn := Tryz.f207) Tryz.results207 tmps w C (pkCells h v s) hp (load_pkv a), hq]; rfl

/-- The zero packet, as a new block lays it. -/
def Pv0 : Value := Pv Hd.zero (.slice none 0 0) ⟨#[]⟩

/-- What pkt.Get answers of bytes. -/
def GetPk (w : World) (l : List UInt8) (e : Ending) (w' : World) : Prop :=
  Below w.heap.size w w' ∧ (getErr l ≠ 0 → e = .returned (.tuple #[Pv0, .int .i64 (getErr l)])) ∧
    (getErr l = 0 → ∃ v os, getOs l = some os ∧ e = .returned (.tuple #[Pv (getHd l) v (str (l.drop (getOff l))), .int .i64 0]) ∧ OptsOwn w.heap.size v os w w')

/-- How far pkt.Get has come: the result at block Z, the head at block C. -/
structure GSt (w : World) (Z C : Nat) (g : Hd) (W : World) : Prop where
  pk : PkBlk Hd.zero (.slice none 0 0) ⟨#[]⟩ Z W
  hd : HdBlk g C W
  ne : Z ≠ C
  bel : Below w.heap.size w W
  zge : w.heap.size ≤ Z
  cge : w.heap.size ≤ C
theorem GSt.below {w : World} {Z C : Nat} {g : Hd} {W W' : World} (a : GSt w Z C g W) (hb : Below W.heap.size W W') : GSt w Z C g W' :=
  ⟨a.pk.below hb, a.hd.below hb, a.ne, a.bel.trans (hb.mono a.bel.size), a.zge, a.cge⟩
end Go.Proofs.YtnhlachoimlhhaaGreatDoor

namespace Go.Proofs.YtnhlachoimlhhaaGreatDoor
open Go.ChangeShapes Go.WideShapes Go.ChangeAt Go.RowKit
set_option linter.unusedVariables false

theorem hd_new : ∀ w : World, HdBlk Hd.zero w.heap.size (w.alloc (Obj.cells #[Value.int IntKind.i64 0, Value.int IntKind.i64 0, Value.int IntKind.i64 0, Value.int IntKind.i64 0, Value.int IntKind.i64 0, Value.int IntKind.i64 0, Value.int IntKind.i64 0, Value.bool false, Value.int IntKind.u64 0, Value.int IntKind.u64 0, Value.int IntKind.u32 0, Value.int IntKind.i64 0, Value.int IntKind.u8 0, Value.int IntKind.u8 0, Value.int IntKind.u8 0] 66)) := fun w => heap_alloc_new w _
def pk0 : Obj := Obj.cells #[Value.int IntKind.i64 0, Value.int IntKind.i64 0, Value.int IntKind.i64 0, Value.int IntKind.i64 0, Value.int IntKind.i64 0, Value.int IntKind.i64 0, Value.int IntKind.i64 0, Value.bool false, Value.int IntKind.u64 0, Value.int IntKind.u64 0, Value.int IntKind.u32 0, Value.int IntKind.i64 0, Value.int IntKind.u8 0, Value.int IntKind.u8 0, Value.int IntKind.u8 0, Value.slice none 0 0, Value.string ⟨#[]⟩] 68
theorem pk_new (w : World) : PkBlk Hd.zero (.slice none 0 0) ⟨#[]⟩ w.heap.size (w.alloc pk0) := heap_alloc_new w _

theorem get_bad {w : World} {l : List UInt8} {w' : World} {e : Ending} {n : Nat} (hb : Below w.heap.size w w') (hn : getErr l = n) (hn0 : n ≠ 0) (he : e = .returned (.tuple #[Pv0, .int .i64 n])) : GetPk w l e w' :=
  ⟨hb, fun _ => by rw [hn]; exact he, fun h => absurd (hn.symm.trans h) hn0⟩

def GotOs (W : World) (os : List M.Opt) (e : Ending) (w' : World) : Prop := ∃ p n cap, e = .returned (.tuple #[.slice p n cap, .int .i64 0]) ∧ OptsOwn W.heap.size (.slice p n cap) os W w'
theorem optGet_yes {l : List UInt8} {os : List M.Opt} (hl : l.length ≤ 1073741824) (h : M.getOpts l = some os) (W : World) : Calls Tryz.prog 237 #[.string (str l)] W (GotOs W os) :=
  (optGet_any l hl W).mono fun e w' hh => by
    rw [h] at hh
    obtain ⟨hb, v, he, ho⟩ := hh
    rcases ho.1.2 with ⟨rfl, h0⟩ | ⟨g, cap, cur, rfl, _⟩
    · exact ⟨none, 0, 0, he, ho⟩
    · exact ⟨_, _, cap, he, ho⟩
theorem optGet_no {l : List UInt8} (hl : l.length ≤ 1073741824) (h : M.getOpts l = none) (W : World) : Calls Tryz.prog 237 #[.string (str l)] W fun e w' => e = .returned (.tuple #[.slice none 0 0, .int .i64 7]) ∧ Below W.heap.size W w' :=
  (optGet_any l hl W).mono fun e w' hh => by
    rw [h] at hh
    exact ⟨hh.2, hh.1⟩

theorem OptsOwn.lower {B B2 : Nat} {v : Value} {os : List M.Opt} {W0 W1 w w' : World} {Z : Nat} (h : OptsOwn B v os W1 w) (hB : B2 ≤ B) (hZ : Z < B) (hg : w.drew.grownBy w' (some Z)) (hb : Below B2 W0 w') (hs : B2 ≤ w'.heap.size) : OptsOwn B2 v os W0 w' := by
  have h1 : w.ownsRow B2 106 2 v os.length (ovList os) := by
    refine ⟨h.1.1, ?_⟩
    rcases h.1.2 with h2 | ⟨g, cap, cur, hv, hbg, r⟩
    · exact .inl h2
    · exact .inr ⟨g, cap, cur, hv, Nat.le_trans hB hbg, r⟩
  have h2 : w.drew.ownsRow B2 106 2 v os.length (ovList os) := h1
  refine ⟨h2.kept hg ?_, hb, hs⟩
  cases hv : v.ownBlock with
  | none => exact .inl rfl
  | some k => exact .inr (fun e => by have h3 := (h.lt k hv).1; have h4 := Option.some.inj e; omega)

set_option maxHeartbeats 1600000 in
set_option maxRecDepth 100000 in
theorem pktGet_any (l : List UInt8) (hl : l.length ≤ 1073741824) (w : World) :
    Calls Tryz.prog 207 #[.string (str l)] w (GetPk w l) := by
  have HE : Hid (getErr l = if 2500 < l.length then 13 else if faultN l ≠ 0 then faultN l
    else if covB l.length (getOff l : Nat) (getHd l).cs = false then 5
    else if M.sum16 (l.take (getCov l).toNat) ≠ 0 then 6
    else if getOs l = none then 7 else 0) := Lib.hid rfl
  obtain ⟨s, hs⟩ : ∃ s, str l = s := ⟨_, rfl⟩
  have hsz : s.size = l.length := by rw [← hs]; rfl
  have HS := Lib.hid hs
  have hsl : s.size ≤ 1073741824 := by omega
  have HNEW := Lib.hid (pk_new w)
  have HB0 := Lib.hid (bel_alloc w pk0)
  have hlt0 : w.heap.size < (w.alloc pk0).heap.size := by simp
  unfold pk0 at HNEW HB0 hlt0
  by_cases h13 : 2500 < l.length
  · have HR : Hid (getErr l = 13) := Lib.hid (by rw [HE.out, if_pos h13])
    have hd := decide_eq_true (p := (2500 : Int) < (s.size : Int)) (by omega)
    rw [hs]
    clear hs HE hsz hlt0 h13
    go_enter Tryz.func207, Tryz.ntmps207
    go_upto_region 1 with fail
    generalize hW0 : w.alloc (Obj.cells #[Value.int IntKind.i64 0, Value.int IntKind.i64 0, Value.int IntKind.i64 0, Value.int IntKind.i64 0, Value.int IntKind.i64 0, Value.int IntKind.i64 0, Value.int IntKind.i64 0, Value.bool false, Value.int IntKind.u64 0, Value.int IntKind.u64 0, Value.int IntKind.u32 0, Value.int IntKind.i64 0, Value.int IntKind.u8 0, Value.int IntKind.u8 0, Value.int IntKind.u8 0, Value.slice none 0 0, Value.string ⟨#[]⟩] 68) = W0 at *
    clear hW0
    go_wp2_with (refine store_pk rfl _ _ rfl _ Hd.zero Hd.zero _ _ ⟨#[]⟩ none 0 0 rfl rfl HNEW.out ?_; intro W1 hp1 hg1)
    refine bodyPost_ret (get_end hp1 rfl rfl) rfl (get_bad (HB0.out.grown hg1 HB0.out.size (fun k hk => by cases hk; exact Nat.le_refl _)) HR.out (by decide) rfl)
  · rw [if_neg h13] at HE
    have hd := decide_eq_false (p := (2500 : Int) < (s.size : Int)) (by omega)
    have hl25 : l.length ≤ 2500 := by omega
    by_cases hf : faultN l = 0
    · rw [if_neg (by omega)] at HE
      obtain ⟨hl12, hz0, hzo, hol, ht9⟩ := fault_facts hf
      obtain ⟨g1, g2, g3, g4⟩ := getHd_off hl12
      have HG := Lib.hid (fun W => get_yes l (by omega) W hf)
      have hb4 := byteAt_lt l 4
      have hcsb : (getHd l).cs = ((byteAt l 5 % 16 : Nat) : Int) := g2
      have hoff4 : 4 * (getHd l).off = ((getOff l : Nat) : Int) := by rw [g1]; unfold getOff; omega
      have HCV : Hid (∀ W, Calls Tryz.prog 235 #[(getHd l).val, .int .i64 (s.size : Int)] W fun e w' => e = .returned (.tuple #[.int .i64 (covI l.length (getOff l : Nat) (getHd l).cs), .bool (covB l.length (getOff l : Nat) (getHd l).cs)]) ∧ Below W.heap.size W w') := Lib.hid (fun W => by
        have hh := covered_hd (getHd l) (s.size : Int) W (by omega) (by omega) (by rw [g1]; omega) (by rw [g1]; omega) (by rw [hcsb]; omega) (by rw [hcsb]; omega)
        rw [hoff4, hsz] at hh
        rw [hsz]
        exact hh)
      have HSZ := Lib.hid (fun W => size_any (getHd l).type (getHd l).x W)
      have HSZE : Hid (sizeN (getHd l).type (getHd l).x = getSize l) := Lib.hid rfl
      have hso : getSize l ≤ getOff l := by unfold getSize; rw [g3, g4]; exact hzo
      have hgo : getOff l ≤ s.size := by omega
      rw [hs] at HG ⊢
      have HOFF4 : Hid ((getHd l).off = (byteAt l 4 : Nat) ∧ getOff l = byteAt l 4 * 4) := Lib.hid ⟨g1, rfl⟩
      have HCI : Hid (covB l.length (getOff l : Nat) (getHd l).cs = true → ∃ k : Nat, k ≤ l.length ∧ covI l.length (getOff l : Nat) (getHd l).cs = (k : Int) ∧ (getCov l).toNat = k) := Lib.hid (by
        intro hc
        have hcl : getCov l = covI l.length (getOff l : Nat) (getHd l).cs := rfl
        rw [hcl]
        unfold covB at hc
        have hc2 := of_decide_eq_true hc
        unfold covI
        rw [if_neg hc2.1]
        by_cases h0 : (getHd l).cs = 0
        · rw [if_pos h0]; exact ⟨l.length, Nat.le_refl _, rfl, by omega⟩
        · rw [if_neg h0, if_neg (hc2.2.resolve_left h0)]
          have h5 := hc2.2.resolve_left h0
          exact ⟨((getOff l : Nat) + 4 * ((getHd l).cs - 1)).toNat, by omega, by omega, by omega⟩)
      clear hs hsz h13 hf hz0 hzo ht9 g1 g2 g3 g4 hcsb hoff4 hl12
      go_enter Tryz.func207, Tryz.ntmps207
      go_upto_region 1 with fail
      generalize hW0 : w.alloc (Obj.cells #[Value.int IntKind.i64 0, Value.int IntKind.i64 0, Value.int IntKind.i64 0, Value.int IntKind.i64 0, Value.int IntKind.i64 0, Value.int IntKind.i64 0, Value.int IntKind.i64 0, Value.bool false, Value.int IntKind.u64 0, Value.int IntKind.u64 0, Value.int IntKind.u32 0, Value.int IntKind.i64 0, Value.int IntKind.u8 0, Value.int IntKind.u8 0, Value.int IntKind.u8 0, Value.slice none 0 0, Value.string ⟨#[]⟩] 68) = W0 at *
      clear hW0
      go_upto_region 4 with (first
        | (go_at_call 236; refine (HG.out _).mono ?_; rintro e W1 ⟨rfl, hb1⟩)
        | (refine store_blk rfl _ _ rfl _ Hd.zero (getHd l) rfl rfl (hd_new _) ?_; intro W2 hc2 hg2))
      have hne : w.heap.size ≠ W1.heap.size := by have := hb1.size; omega
      have hp2 := ((HNEW.out.below hb1).other (World.grownBy_alloc _ _ none) (by simp)).other hg2 (by simpa using hne)
      have b1 := (HB0.out.trans (hb1.mono (Nat.le_of_lt hlt0))).alloc (Nat.le_trans (Nat.le_of_lt hlt0) hb1.size) (Obj.cells #[Value.int IntKind.i64 0, Value.int IntKind.i64 0, Value.int IntKind.i64 0, Value.int IntKind.i64 0, Value.int IntKind.i64 0, Value.int IntKind.i64 0, Value.int IntKind.i64 0, Value.bool false, Value.int IntKind.u64 0, Value.int IntKind.u64 0, Value.int IntKind.u32 0, Value.int IntKind.i64 0, Value.int IntKind.u8 0, Value.int IntKind.u8 0, Value.int IntKind.u8 0] 66)
      have hle : w.heap.size ≤ W1.heap.size := by have := hb1.size; omega
      have b2 := b1.grown hg2 b1.size (fun k hk => by cases hk; exact hle)
      have HST : Hid (GSt w w.heap.size W1.heap.size (getHd l) W2) := Lib.hid ⟨hp2, hc2, hne, b2, Nat.le_refl _, hle⟩
      clear hne hp2 b1 b2 hb1 hg2 hc2 hlt0 hle HNEW HB0 HG
      obtain ⟨Z, hZ⟩ : ∃ Z, Z = w.heap.size := ⟨_, rfl⟩
      have HZ := Lib.hid hZ
      rw [← hZ] at HST ⊢
      generalize W1.heap.size = C at *
      clear hZ
      by_cases hcv : covB l.length (getOff l : Nat) (getHd l).cs = true
      · rw [if_neg (by rw [hcv]; decide)] at HE
        obtain ⟨k, hk, hci, hct⟩ := HCI.out hcv
        rw [hcv, hci] at HCV
        rw [hct] at HE
        have hks : k ≤ s.size := by rw [← HS.out]; exact hk
        obtain ⟨E, hE⟩ : ∃ E, str (l.take k) = E := ⟨_, rfl⟩
        have hrun : ∀ W : World, (Instr.slice 9 (.string s) none (some (.int .i64 (k : Int))) none).run Tryz.prog W = .ok (.string E) W := fun W => by
          rw [run_slice_string_h W 9 s Tryz.underlying9 .i64 k (by omega) (by omega)]
          have hx := str_extract l 0 k
          rw [HS.out, List.drop_zero, hE] at hx
          exact congrArg (fun z => Result.ok (Value.string z) W) hx
        have hEs : E.size = k := by rw [← hE]; show (l.take k).length = k; rw [List.length_take]; omega
        have HSUM : Hid (∀ W : World, Calls Tryz.prog 210 #[.slice (some ⟨W.heap.size, 0, none⟩) 1 1] (W.alloc (.cells #[.string E] 9)) fun e w' => e = .returned (.int .i64 (M.sum16 (l.take k))) ∧ (W.alloc (.cells #[.string E] 9)) = w') := Lib.hid (fun W => by
          have hj : M.joined [E] = l.take k := by
            unfold M.joined
            rw [← hE]
            simp [str]
          have hs := sumOf_at (w := W.alloc (.cells #[.string E] 9)) (v := .slice (some ⟨W.heap.size, 0, none⟩) 1 1) (ss := [E]) ⟨.inr ⟨⟨W.heap.size, 0, none⟩, 1, rfl, fun i hi => by
              rw [Addr.add_mid, cell_of_row _ _ _ _ _ _ (heap_alloc_new W _)]
              have : i = 0 := by simp at hi; omega
              rcases this with rfl; rfl⟩, by simp, by
              intro s hs
              simp at hs
              unfold maxLen
              rcases hs with rfl; omega, by
              rw [hj, List.length_take]; omega⟩
          rw [hj] at hs
          exact hs)
        have hs65 : M.sum16 (l.take k) ≤ 65535 := by unfold M.sum16; omega
        clear hcv hci hct hE hEs HCI
        go_upto_region 9 with (first
          | (refine load_blk rfl _ rfl C rfl _ HST.out.hd ?_)
          | (go_at_call 235; (with_reducible refine (HCV.out _).mono ?_); rintro e W8 ⟨rfl, hb8⟩))
        have st8 := HST.out.below hb8
        have st9 := st8.below (bel_alloc W8 (.cells #[.string E] 9))
        have HST9 := Lib.hid st9
        clear st8 st9 hb8 HST HCV
        by_cases h6 : M.sum16 (l.take k) = 0
        · rw [if_neg (by omega)] at HE
          rw [h6] at HSUM
          clear h6 hs65
          go_upto_region 11 with (go_at_call 210; refine (HSUM.out _).mono ?_; rintro e W9 ⟨rfl, rfl⟩)
          generalize W8.alloc (.cells #[.string E] 9) = W9 at *
          have c2 := HST9.out.hd.at_.2.2.1
          have c6 := HST9.out.hd.at_.2.2.2.2.2.2.1
          have c7 := HST9.out.hd.at_.2.2.2.2.2.2.2.1
          have o4 : (4 : Int) * (getHd l).off = ((getOff l : Nat) : Int) := by rw [HOFF4.out.1, HOFF4.out.2]; omega
          clear hrun HSUM
          rw [HSZE.out] at HSZ
          obtain ⟨F, hF⟩ : ∃ F, str ((l.take (getOff l)).drop (getSize l)) = F := ⟨_, rfl⟩
          have hFl : ((l.take (getOff l)).drop (getSize l)).length ≤ 1073741824 := by rw [List.length_drop, List.length_take]; omega
          have HGO : Hid (getOs l = M.getOpts ((l.take (getOff l)).drop (getSize l))) := Lib.hid rfl
          have hrun : ∀ W : World, (Instr.slice 9 (.string s) (some (.int .i64 (getSize l : Nat))) (some (.int .i64 (getOff l : Nat))) none).run Tryz.prog W = .ok (.string F) W := fun W => by
            rw [run_slice_string W 9 s .i64 .i64 _ _ Tryz.underlying9 (by omega) (by omega) (by omega)]
            have hx := str_extract l (getSize l) (getOff l)
            rw [HS.out, hF] at hx
            exact congrArg (fun z => Result.ok (Value.string z) W) hx
          cases hos : getOs l with
          | none =>
            have HR : Hid (getErr l = 7) := Lib.hid (by rw [HE.out, if_pos hos])
            have HN := Lib.hid (fun W => optGet_no hFl (HGO.out.symm.trans hos) W)
            rw [hF] at HN
            generalize getOff l = q at *
            generalize getSize l = z at *
            clear HE hos hF hFl
            go_upto_region 13 with (first
              | (go_at_call 211; refine (HSZ.out _).mono ?_; rintro e W10 ⟨rfl, rfl⟩)
              | (go_at_call 237; refine (HN.out _).mono ?_; rintro e W11 ⟨rfl, hb11⟩))
            have HST11 := Lib.hid (HST9.out.below hb11)
            clear hb11 HST9 c2 c6 c7
            go_wp2_with (refine store_pk rfl _ _ rfl _ Hd.zero Hd.zero _ _ ⟨#[]⟩ none 0 0 rfl rfl HST11.out.pk ?_; intro W3 hp3 hg3)
            refine bodyPost_ret (get_end hp3 rfl rfl) rfl (get_bad (HST11.out.bel.grown hg3 HST11.out.bel.size (fun k hk => by cases hk; exact HST11.out.zge)) HR.out (by decide) rfl)
          | some os =>
            have HR : Hid (getErr l = 0) := Lib.hid (by rw [HE.out, if_neg (by rw [hos]; intro h; cases h)])
            have HN := Lib.hid (fun W => optGet_yes hFl (HGO.out.symm.trans hos) W)
            rw [hF] at HN
            obtain ⟨D, hD⟩ : ∃ D, str (l.drop (getOff l)) = D := ⟨_, rfl⟩
            have hdd := str_drop l (getOff l)
            rw [HS.out, hD] at hdd
            have HD := Lib.hid hD
            have HQ : Hid (getOff l = getOff l) := Lib.hid rfl
            generalize hq : getOff l = q at *
            generalize getSize l = z at *
            have HQ2 := Lib.hid hq
            clear HE hF hFl hD hq HQ
            go_upto_region 15 with (first
              | (go_at_call 211; refine (HSZ.out _).mono ?_; rintro e W10 ⟨rfl, rfl⟩)
              | (go_at_call 237; refine (HN.out _).mono ?_; rintro e W11 ⟨p, n, cap, rfl, ho11⟩))
            have hzl := HST9.out.pk.lt
            have hwl := HST9.out.bel.size
            have st11 := HST9.out.below ho11.2.1
            have HZL := Lib.hid hzl; have HWL := Lib.hid hwl
            clear hzl hwl
            have HO11 := Lib.hid ho11
            have HST11 := Lib.hid st11
            have h1 := st11.hd.at_
            unfold HdAt at h1
            obtain ⟨q0, q1, q2, q3, q4, q5, q6, q7, q8, q9, q10, q11, q12, q13, q14⟩ := h1
            clear ho11 st11 HST9 c2 c6 c7
            go_still_tail 6, (by kernel_rfl)
            change wpList _ _ _ _ _ W11.drew
            have hdr : W11.drew.heap = W11.heap := rfl
            refine store_pk rfl _ _ rfl Z Hd.zero (getHd l) _ _ D p n cap rfl rfl (show PkBlk Hd.zero (.slice none 0 0) ⟨#[]⟩ Z W11.drew from HST11.out.pk) ?_
            intro W3 hp3 hg3
            go_wp2
            have b12 : Below w.heap.size w W11.drew := HST11.out.bel.drew
            have b13 := b12.grown hg3 b12.size (fun k hk => by cases hk; exact HST11.out.zge)
            have ho12 : OptsOwn w.heap.size (.slice p n cap) os w W3 := HO11.out.lower HWL.out HZL.out hg3 b13 b13.size
            refine bodyPost_ret (get_end hp3 rfl rfl) rfl ⟨b13, fun h => absurd HR.out h, fun _ => ⟨.slice p n cap, os, hos, ?_, ho12⟩⟩
            rw [HQ2.out, HD.out]
        · have HR : Hid (getErr l = 6) := Lib.hid (by rw [HE.out, if_pos h6])
          have hbne : (((M.sum16 (l.take k) : Nat) : Int) != 0) = true := by rw [bne_iff_ne]; omega
          generalize M.sum16 (l.take k) = m at *
          clear HE h6
          go_wp2_with (first
            | (go_at_call 210; refine (HSUM.out _).mono ?_; rintro e W9 ⟨rfl, rfl⟩)
            | (refine store_pk rfl _ _ rfl _ Hd.zero Hd.zero _ _ ⟨#[]⟩ none 0 0 rfl rfl HST9.out.pk ?_; intro W3 hp3 hg3))
          refine bodyPost_ret (get_end hp3 rfl rfl) rfl (get_bad (HST9.out.bel.grown hg3 HST9.out.bel.size (fun k hk => by cases hk; exact HST9.out.zge)) HR.out (by decide) rfl)
      · have hcf := Bool.eq_false_iff.2 hcv
        have HR : Hid (getErr l = 5) := Lib.hid (by rw [HE.out, if_pos hcf])
        rw [hcf] at HCV
        generalize covI l.length (getOff l : Nat) (getHd l).cs = N at *
        clear hcv hcf HE HCI
        go_upto_region 7 with (first
          | (refine load_blk rfl _ rfl C rfl _ HST.out.hd ?_)
          | (go_at_call 235; (with_reducible refine (HCV.out _).mono ?_); rintro e W8 ⟨rfl, hb8⟩))
        have HST8 := Lib.hid (HST.out.below hb8)
        clear hb8 HST
        go_wp2_with (refine store_pk rfl _ _ rfl _ Hd.zero Hd.zero _ _ ⟨#[]⟩ none 0 0 rfl rfl HST8.out.pk ?_; intro W3 hp3 hg3)
        refine bodyPost_ret (get_end hp3 rfl rfl) rfl (get_bad (HST8.out.bel.grown hg3 HST8.out.bel.size (fun k hk => by cases hk; exact HST8.out.zge)) HR.out (by decide) rfl)
    · have HR : Hid (getErr l = faultN l) := Lib.hid (by rw [HE.out, if_pos hf])
      have HG := Lib.hid (fun W => get_no l (by omega) W hf)
      have HNZ := Lib.hid hf
      have hbne : (((faultN l : Nat) : Int) != 0) = true := by rw [bne_iff_ne]; omega
      generalize faultN l = f at *
      rw [hs] at HG ⊢
      clear hs HE hsz h13 hf
      go_enter Tryz.func207, Tryz.ntmps207
      go_upto_region 1 with fail
      generalize hW0 : w.alloc (Obj.cells #[Value.int IntKind.i64 0, Value.int IntKind.i64 0, Value.int IntKind.i64 0, Value.int IntKind.i64 0, Value.int IntKind.i64 0, Value.int IntKind.i64 0, Value.int IntKind.i64 0, Value.bool false, Value.int IntKind.u64 0, Value.int IntKind.u64 0, Value.int IntKind.u32 0, Value.int IntKind.i64 0, Value.int IntKind.u8 0, Value.int IntKind.u8 0, Value.int IntKind.u8 0, Value.slice none 0 0, Value.string ⟨#[]⟩] 68) = W0 at *
      clear hW0
      go_upto_region 4 with (first
        | (go_at_call 236; refine (HG.out _).mono ?_; rintro e W1 ⟨rfl, hb1⟩)
        | (refine store_blk rfl _ _ rfl _ Hd.zero Hd.zero rfl rfl (hd_new _) ?_; intro W2 hc2 hg2))
      have hne : w.heap.size ≠ W1.heap.size := by have := hb1.size; omega
      have hp2 := ((HNEW.out.below hb1).other (World.grownBy_alloc _ _ none) (by simp)).other hg2 (by simpa using hne)
      have b1 := (HB0.out.trans (hb1.mono (Nat.le_of_lt hlt0))).alloc (Nat.le_trans (Nat.le_of_lt hlt0) hb1.size) (Obj.cells #[Value.int IntKind.i64 0, Value.int IntKind.i64 0, Value.int IntKind.i64 0, Value.int IntKind.i64 0, Value.int IntKind.i64 0, Value.int IntKind.i64 0, Value.int IntKind.i64 0, Value.bool false, Value.int IntKind.u64 0, Value.int IntKind.u64 0, Value.int IntKind.u32 0, Value.int IntKind.i64 0, Value.int IntKind.u8 0, Value.int IntKind.u8 0, Value.int IntKind.u8 0] 66)
      have hle : w.heap.size ≤ W1.heap.size := by have := hb1.size; omega
      have b2 := b1.grown hg2 b1.size (fun k hk => by cases hk; exact hle)
      have HP2 := Lib.hid hp2; have HB2 := Lib.hid b2
      clear hne hp2 b1 b2 hb1 hg2 hc2 hlt0
      go_wp2_with (refine store_pk rfl _ _ rfl _ Hd.zero Hd.zero _ _ ⟨#[]⟩ none 0 0 rfl rfl HP2.out ?_; intro W3 hp3 hg3)
      refine bodyPost_ret (get_end hp3 rfl rfl) rfl (get_bad (HB2.out.grown hg3 HB2.out.size (fun k hk => by cases hk; exact Nat.le_refl _)) HR.out HNZ.out rfl)
end Go.Proofs.YtnhlachoimlhhaaGreatDoor

namespace Go.Proofs.YtnhlachoimlhhaaGreatDoor
open Go.ChangeShapes Go.WideShapes Go.ChangeAt Go.RowKit
set_option linter.unusedVariables false

def PutPk (w : World) (h : Hd) (os : List M.Opt) (d : List UInt8) (e : Ending) (w' : World) : Prop :=
  e = .returned (.tuple #[.string (str (putText h os d)), .int .i64 (putErr h os d)]) ∧ Below w.heap.size w w'

theorem ret_put {w w' : World} {h : Hd} {os : List M.Opt} {d : List UInt8} {s : ByteArray} {n : Int} (h1 : putErr h os d = n) (h2 : s = str (putText h os d)) (hb : Below w.heap.size w w') : PutPk w h os d (.returned (.tuple #[.string s, .int .i64 n])) w' := ⟨by rw [h1, h2], hb⟩

theorem optPut_at {w : World} {v : Value} {os : List M.Opt} (h : OptsAt w v os) : Calls Tryz.prog 232 #[v] w (PutEnd w (M.putOpts os)) := by
  rcases h.at_ with ⟨rfl, a, cap, rfl⟩ | ⟨b, o, cap, rfl, hb, hc⟩
  · exact optPut_none a cap w
  · exact optPut_some b o cap os w hb hc h.len h.data
theorem OptsAt.shape {w : World} {v : Value} {os : List M.Opt} (h : OptsAt w v os) : ∃ a cap, v = .slice a os.length cap := by
  rcases h.at_ with ⟨rfl, a, cap, rfl⟩ | ⟨b, o, cap, rfl, hb, hc⟩
  · exact ⟨a, cap, rfl⟩
  · exact ⟨_, cap, rfl⟩

/-- How far pkt.Put has come: the packet at block B, its new head at block C. -/
structure PSt (w : World) (B C : Nat) (h : Hd) (v : Value) (s : ByteArray) (g : Hd) (W : World) : Prop where
  pk : PkBlk h v s B W
  hd : HdBlk g C W
  ne : B ≠ C
  bel : Below w.heap.size w W
  cge : w.heap.size ≤ C
theorem PSt.below {w : World} {B C : Nat} {h : Hd} {v : Value} {s : ByteArray} {g : Hd} {W W' : World} (a : PSt w B C h v s g W) (hb : Below W.heap.size W W') : PSt w B C h v s g W' :=
  ⟨a.pk.below hb, a.hd.below hb, a.ne, a.bel.trans (hb.mono a.bel.size), a.cge⟩
theorem PSt.set {w : World} {B C : Nat} {h : Hd} {v : Value} {s : ByteArray} {g : Hd} {W : World} (a : PSt w B C h v s g W) (g2 : Hd) (i : Nat) (x : Value) (e : g.cellsA.setIfInBounds i x = g2.cellsA) : PSt w B C h v s g2 (W.setCell ⟨C, i, none⟩ x) :=
  ⟨a.pk.other (grown_set W C i x) (by simpa using a.ne), a.hd.set g2 i x e, a.ne, a.bel.grown (grown_set W C i x) a.bel.size (fun k hk => by cases hk; exact a.cge), a.cge⟩

theorem PSt.drew {w : World} {B C : Nat} {h : Hd} {v : Value} {s : ByteArray} {g : Hd} {W : World} (a : PSt w B C h v s g W) : PSt w B C h v s g W.drew := ⟨a.pk, a.hd, a.ne, a.bel.drew, a.cge⟩
theorem PSt.s {w : World} {B C : Nat} {h : Hd} {v : Value} {s : ByteArray} {g : Hd} {W : World} (a : PSt w B C h v s g W) : PSt w B C h v s g W ∧ W.cell? ⟨C, 0, none⟩ = some (.int .i64 g.src) ∧ W.cell? ⟨C, 1, none⟩ = some (.int .i64 g.dst) ∧ W.cell? ⟨C, 2, none⟩ = some (.int .i64 g.off) ∧ W.cell? ⟨C, 3, none⟩ = some (.int .i64 g.cc) ∧ W.cell? ⟨C, 4, none⟩ = some (.int .i64 g.cs) ∧ W.cell? ⟨C, 5, none⟩ = some (.int .i64 g.sum) ∧ W.cell? ⟨C, 6, none⟩ = some (.int .i64 g.type) ∧ W.cell? ⟨C, 7, none⟩ = some (.bool g.x) ∧ W.cell? ⟨C, 8, none⟩ = some (.int .u64 g.seq) ∧ W.cell? ⟨C, 9, none⟩ = some (.int .u64 g.ack) ∧ W.cell? ⟨C, 10, none⟩ = some (.int .u32 g.service) ∧ W.cell? ⟨C, 11, none⟩ = some (.int .i64 g.code) ∧ W.cell? ⟨C, 12, none⟩ = some (.int .u8 g.i0) ∧ W.cell? ⟨C, 13, none⟩ = some (.int .u8 g.i1) ∧ W.cell? ⟨C, 14, none⟩ = some (.int .u8 g.i2) ∧ W.cell? ⟨B, 16, none⟩ = some (.string s) := by
  have h1 := a.hd.at_
  have h2 := a.pk.cells.2
  unfold HdAt at h1
  obtain ⟨q0, q1, q2, q3, q4, q5, q6, q7, q8, q9, q10, q11, q12, q13, q14⟩ := h1
  exact ⟨a, q0, q1, q2, q3, q4, q5, q6, q7, q8, q9, q10, q11, q12, q13, q14, h2⟩

set_option maxHeartbeats 1600000 in
set_option maxRecDepth 100000 in
theorem pktPut_any (h : Hd) (hok : h.ok) (v : Value) (os : List M.Opt) (d : List UInt8) (w : World) (hos : OptsAt w v os) (hd : d.length ≤ maxLen) :
    Calls Tryz.prog 206 #[Pv h v (str d)] w (PutPk w h os d) := by
  have HPE : Hid (putErr h os d = if h.bare.mayB = false then 3 else if (M.putOpts os).length = 0 ∧ 0 < os.length then 7
    else if largeB (offN h os) d.length = true then 13 else if covB (4 * offN h os + d.length : Nat) (4 * offN h os : Nat) h.cs = false then 5 else 0) := Lib.hid rfl
  obtain ⟨va, vc, rfl⟩ := hos.shape
  obtain ⟨D, hDD⟩ : ∃ D, str d = D := ⟨_, rfl⟩
  have HD := Lib.hid hDD
  rw [hDD]
  have hDs : Hid (D.size = d.length) := Lib.hid (by rw [← hDD]; rfl)
  have HBOX := Lib.hid (PkBlk.new h (.slice va os.length vc) D w)
  have hbx : PkBox h (.slice va os.length vc) D = .cells #[.int .i64 h.src, .int .i64 h.dst, .int .i64 h.off, .int .i64 h.cc, .int .i64 h.cs, .int .i64 h.sum, .int .i64 h.type, .bool h.x, .int .u64 h.seq, .int .u64 h.ack, .int .u32 h.service, .int .i64 h.code, .int .u8 h.i0, .int .u8 h.i1, .int .u8 h.i2, .slice va os.length vc, .string D] 68 := rfl
  have HB0 := Lib.hid (bel_alloc w (PkBox h (.slice va os.length vc) D))
  rw [hbx] at HBOX HB0
  have HOS := Lib.hid hos
  have hz : Hd.zero.box = Obj.cells #[Value.int IntKind.i64 0, Value.int IntKind.i64 0, Value.int IntKind.i64 0, Value.int IntKind.i64 0, Value.int IntKind.i64 0, Value.int IntKind.i64 0, Value.int IntKind.i64 0, Value.bool false, Value.int IntKind.u64 0, Value.int IntKind.u64 0, Value.int IntKind.u32 0, Value.int IntKind.i64 0, Value.int IntKind.u8 0, Value.int IntKind.u8 0, Value.int IntKind.u8 0] 66 := rfl
  have HZ : Hid (∀ w : World, HdBlk Hd.zero w.heap.size (w.alloc (Obj.cells #[Value.int IntKind.i64 0, Value.int IntKind.i64 0, Value.int IntKind.i64 0, Value.int IntKind.i64 0, Value.int IntKind.i64 0, Value.int IntKind.i64 0, Value.int IntKind.i64 0, Value.bool false, Value.int IntKind.u64 0, Value.int IntKind.u64 0, Value.int IntKind.u32 0, Value.int IntKind.i64 0, Value.int IntKind.u8 0, Value.int IntKind.u8 0, Value.int IntKind.u8 0] 66))) := Lib.hid (fun w => by rw [← hz]; exact heap_alloc_new w _)
  have HMAY := Lib.hid (fun W => may_any h.bare W hok.seq hok.ack)
  clear hz hbx hos hDD
  unfold Pv
  go_enter Tryz.func206, Tryz.ntmps206
  go_upto_region 1 with fail
  obtain ⟨B, hB⟩ : ∃ B, B = w.heap.size := ⟨_, rfl⟩
  have hlt0 := HBOX.out.lt
  rw [← hB] at HBOX HB0 hlt0 ⊢
  have HBB := Lib.hid hB
  generalize w.alloc (Obj.cells #[.int .i64 h.src, .int .i64 h.dst, .int .i64 h.off, .int .i64 h.cc, .int .i64 h.cs, .int .i64 h.sum, .int .i64 h.type, .bool h.x, .int .u64 h.seq, .int .u64 h.ack, .int .u32 h.service, .int .i64 h.code, .int .u8 h.i0, .int .u8 h.i1, .int .u8 h.i2, .slice va os.length vc, .string D] 68) = W0 at *
  clear hB
  go_upto_region 2 with (first
    | (refine load_mid rfl _ rfl B rfl h _ D HBOX.out ?_)
    | (go_at_call 230; refine (bare_any h _).mono ?_; rintro e W1 ⟨rfl, hb1⟩)
    | (refine store_blk rfl _ _ rfl _ Hd.zero h.bare rfl rfl (HZ.out _) ?_; intro W2 hc2 hg2))
  have hBC : B ≠ W1.heap.size := by have := hb1.size; omega
  have hwW : w.heap.size ≤ W1.heap.size := by rw [← HBB.out]; have := hb1.size; omega
  have hst : PSt w B W1.heap.size h (.slice va os.length vc) D h.bare W2 := by
    refine ⟨((HBOX.out.below hb1).other (World.grownBy_alloc _ _ none) (by simp)).other hg2 (by simpa using hBC), hc2, hBC, ?_, hwW⟩
    have b1 : Below w.heap.size w W1 := (by rw [← HBB.out]; exact HB0.out : Below w.heap.size w W0).trans (hb1.mono (by rw [← HBB.out]; omega))
    exact (b1.alloc hwW _).grown hg2 (by simp; omega) (fun k hk => by cases hk; exact hwW)
  have HST := Lib.hid hst
  clear hst hb1 hg2 hc2 hwW hlt0 HBOX HB0 HZ hBC
  generalize W1.heap.size = C at *
  by_cases hm : h.bare.mayB = true
  · rw [hm] at HMAY
    rw [if_neg (by rw [hm]; decide)] at HPE
    have HM := Lib.hid hm
    clear hm
    go_upto_region 4 with (first
      | (refine load_blk rfl _ rfl C rfl _ HST.out.hd ?_)
      | (go_at_call 231; refine (HMAY.out _).mono ?_; rintro e W3 ⟨rfl, hb3⟩))
    have st3 := HST.out.below hb3
    have c15 := st3.pk.cells.1
    have HST3 := Lib.hid st3
    clear st3 hb3 HST HMAY
    go_upto_region 5 with (go_at_call 232; refine (optPut_at (HOS.out.below HST3.out.bel)).mono ?_; rintro e W4 ⟨rfl, hb4⟩)
    have st4 := HST3.out.below hb4
    have d15 := st4.pk.cells.1
    have c2 := st4.hd.at_.2.2.1
    have f2 := st4.hd.free 2
    have HST4 := Lib.hid st4
    have hno := putOpts_le os HOS.out.len
    have hn4 := putOpts_len4 os
    obtain ⟨O, hO⟩ : ∃ O, str (M.putOpts os) = O := ⟨_, rfl⟩
    have hOs : O.size = (M.putOpts os).length := by rw [← hO]; rfl
    rw [hO]
    have HO := Lib.hid hO; have HOSZ := Lib.hid hOs
    have hol : O.size ≤ 273804165123 := by omega
    clear st4 hb4 HST3 c15 hO
    have hlenos := HOS.out.len
    by_cases h7 : (M.putOpts os).length = 0 ∧ 0 < os.length
    · have HR : Hid (putErr h os d = 7) := Lib.hid (by rw [HPE.out, if_pos h7])
      have hOe : O = ⟨#[]⟩ := by rw [← HO.out]; exact str_empty h7.1
      subst hOe
      have h70 := h7.2
      clear h7 HPE hOs
      go_wp2
      go_ret2
      exact ret_put (by rw [HR.out]; rfl) (by unfold putText; rw [if_neg (by rw [HR.out]; decide)]; rfl) HST4.out.bel
    · rw [if_neg h7] at HPE
      have hsplit : (O.toList.isEmpty = true ∧ decide (0 < os.length) = false) ∨ O.toList.isEmpty = false := by
        rw [← HO.out, str_toList]
        by_cases h0 : (M.putOpts os).length = 0
        · exact .inl ⟨by rw [List.eq_nil_of_length_eq_zero h0]; rfl, decide_eq_false (fun h => h7 ⟨h0, h⟩)⟩
        · right
          cases hp : M.putOpts os with
          | nil => rw [hp] at h0; exact absurd rfl h0
          | cons _ _ => rfl
      have hoff : ((offN h os : Nat) : Int) = ((sizeN h.type h.x / 4 : Nat) : Int) + (O.size : Int) / 4 := by unfold offN; rw [hOs]; simp
      have hql : offN h os ≤ 1000000000000 := by unfold offN; have := sizeN_le h.type h.x; omega
      have hbo : h.bare.off = ((sizeN h.type h.x / 4 : Nat) : Int) := rfl
      rw [hbo] at c2
      have hz4 : sizeN h.type h.x / 4 ≤ 7 := by have := sizeN_le h.type h.x; omega
      have HOFF := Lib.hid hoff
      have HSET : Hid (∀ W, PSt w B C h (.slice va os.length vc) D h.bare W → PSt w B C h (.slice va os.length vc) D (h.off1 os) (W.setCell ⟨C, 2, none⟩ (.int .i64 (((sizeN h.type h.x / 4 : Nat) : Int) + (O.size : Int) / 4)))) :=
        Lib.hid (fun W a => a.set (h.off1 os) 2 _ (by rw [← hoff]; rfl))
      clear h7 hOs hoff hbo hno hn4
      generalize sizeN h.type h.x / 4 = z4 at *
      rcases hsplit with ⟨he, hl0⟩ | he
      all_goals
        go_upto_region 8 with fail
        have st5 := HSET.out _ HST4.out
        generalize W4.setCell ⟨C, 2, none⟩ (.int .i64 ((z4 : Int) + (O.size : Int) / 4)) = W5 at *
        have e2 := st5.hd.at_.2.2.1
        have e16 := st5.pk.cells.2
        have HST5 := Lib.hid st5
        have hqe : (h.off1 os).off = ((offN h os : Nat) : Int) := rfl
        have hDl : D.size ≤ 9223372036854775807 := by have := hDs.out; unfold maxLen at hd; omega
        rw [hqe] at e2
        have HLG := Lib.hid (fun W => isLarge_any (offN h os) D.size hql hDl W)
        clear st5 c2 f2 HST4 HSET d15 hqe
        by_cases h13 : largeB (offN h os) d.length = true
        · have HR : Hid (putErr h os d = 13) := Lib.hid (by rw [HPE.out, if_pos h13])
          rw [hDs.out, h13] at HLG
          generalize offN h os = q at *
          clear h13 HPE
          have hDs2 := hDs.out
          clear hDs
          go_wp2_with (go_at_call 233; refine (HLG.out _).mono ?_; rintro e W6 ⟨rfl, rfl⟩)
          go_ret2
          exact ret_put (by rw [HR.out]; rfl) (by unfold putText; rw [if_neg (by rw [HR.out]; decide)]; rfl) HST5.out.bel
        · have hq := h13
          unfold largeB at hq
          rw [decide_eq_true_eq] at hq
          have hq1 : offN h os ≤ 255 := by omega
          have hq2 : 4 * offN h os + d.length ≤ 2500 := by omega
          have hd14 : d.length ≤ 1400 := by omega
          have hmay := off1_may HM.out hq1
          have hal := ahead_len HM.out hq1
          rw [if_neg h13] at HPE
          rw [hDs.out, Bool.eq_false_iff.2 h13] at HLG
          have HPUT := Lib.hid (fun W => put_yes (h.off1 os) W hmay hok.seq hok.ack hok.service hok.i0 hok.i1 hok.i2)
          obtain ⟨A, hA⟩ : ∃ A, str (h.off1 os).bytes = A := ⟨_, rfl⟩
          obtain ⟨AO, hAO⟩ : ∃ AO, A ++ O = AO := ⟨_, rfl⟩
          have hAOe : AO = str ((h.off1 os).bytes ++ M.putOpts os) := by rw [← hAO, ← hA, ← HO.out, str_append]
          have hAOs : AO.size = 4 * offN h os := by rw [hAOe]; exact hal
          have hAOs2 : AO.size = A.size + O.size := by rw [← hAO]; simp
          have hAs : A.size + O.size ≤ 9223372036854775807 := by omega
          rw [hA] at HPUT
          have hcs := (mayB_bounds hmay).2.2.2.2.1
          have hcs0 : (h.off1 os).cs = h.cs := rfl
          rw [hcs0] at hcs
          have htot : (4 * offN h os + d.length : Nat) = ((AO.size : Int) + (D.size : Int)) := by rw [hAOs, hDs.out]; simp
          have hoff4 : 4 * (h.off1 os).off = ((4 * offN h os : Nat) : Int) := by show (4 : Int) * ((offN h os : Nat) : Int) = _; simp
          have HCV : Hid (∀ W, Calls Tryz.prog 235 #[(h.off1 os).val, .int .i64 ((AO.size : Int) + (D.size : Int))] W fun e w' => e = .returned (.tuple #[.int .i64 (covI (4 * offN h os + d.length : Nat) (4 * offN h os : Nat) h.cs), .bool (covB (4 * offN h os + d.length : Nat) (4 * offN h os : Nat) h.cs)]) ∧ Below W.heap.size W w') := Lib.hid (fun W => by
            have hh := covered_hd (h.off1 os) ((AO.size : Int) + (D.size : Int)) W (by omega) (by rw [← htot]; omega) (by show (0 : Int) ≤ ((offN h os : Nat) : Int); omega) (by show ((offN h os : Nat) : Int) ≤ 1000000000; omega) (by rw [hcs0]; omega) (by rw [hcs0]; omega)
            rw [hoff4, hcs0] at hh
            rw [htot]
            exact hh)
          have HAOE := Lib.hid hAOe; have HAOS := Lib.hid hAOs
          have hAOl : AO.size ≤ 2500 := by omega
          have hDs1 : D.size ≤ 1400 := by rw [hDs.out]; omega
          have HCI : Hid (covB (4 * offN h os + d.length : Nat) (4 * offN h os : Nat) h.cs = true → ∃ k : Nat, k ≤ d.length ∧ covI (4 * offN h os + d.length : Nat) (4 * offN h os : Nat) h.cs = ((4 * offN h os + k : Nat) : Int) ∧ covLen h os d = k) := Lib.hid (by
            intro hc
            have hcl : covLen h os d = (covI (4 * offN h os + d.length : Nat) (4 * offN h os : Nat) h.cs).toNat - 4 * offN h os := rfl
            unfold covB at hc
            have hc2 := of_decide_eq_true hc
            rw [hcl]
            unfold covI
            rw [if_neg hc2.1]
            by_cases h0 : h.cs = 0
            · rw [if_pos h0]; exact ⟨d.length, Nat.le_refl _, rfl, by omega⟩
            · rw [if_neg h0, if_neg (hc2.2.resolve_left h0)]
              have h5 := hc2.2.resolve_left h0
              exact ⟨(4 * (h.cs - 1)).toNat, by omega, by omega, by omega⟩)
          have hpm := @pkHead_may h os d HM.out hq1
          have HA := Lib.hid hA
          clear hoff4 hcs0 htot hAOe hAOs hAOs2 hal h13 hq hA HLG hql hDl hmay
          have HLG2 := Lib.hid (fun W => isLarge_any (offN h os) D.size (by omega) (by omega) W)
          rw [show largeB (offN h os) D.size = false by unfold largeB; rw [hDs.out]; exact decide_eq_false (by omega)] at HLG2
          generalize hqq : offN h os = q at *
          go_upto_region 10 with (go_at_call 233; refine (HLG2.out _).mono ?_; rintro e W6 ⟨rfl, rfl⟩)
          go_upto_region 11 with (first
            | (refine load_blk rfl _ rfl C rfl _ HST5.out.hd ?_)
            | (go_at_call 234; refine (HPUT.out _).mono ?_; rintro e W7 ⟨rfl, hb7⟩))
          have st7 := HST5.out.below hb7
          have g16 := st7.pk.cells.2
          have HST7 := Lib.hid st7
          clear st7 hb7 HST5 e16 e2 HLG2
          by_cases hcv : covB (4 * q + d.length : Nat) (4 * q : Nat) h.cs = true
          · obtain ⟨k, hk, hci, hcl⟩ := HCI.out hcv
            have HR : Hid (putErr h os d = 0) := Lib.hid (by rw [HPE.out, if_neg (by rw [hcv]; decide)])
            rw [hcv, hci] at HCV
            have hAO4 := HAOS.out
            obtain ⟨N, hN⟩ : ∃ N : Int, ((4 * q + k : Nat) : Int) = N := ⟨_, rfl⟩
            rw [hN] at HCV
            have hNk : N - (AO.size : Int) = (k : Int) := by omega
            have hNl : (AO.size : Int) ≤ N := by omega
            have hNu : N ≤ 10000 := by omega
            obtain ⟨E, hE⟩ : ∃ E, str (d.take k) = E := ⟨_, rfl⟩
            have hkD : k ≤ D.size := by rw [hDs.out]; exact hk
            have hrun : ∀ W : World, (Instr.slice 9 (.string D) none (some (.int .i64 (N - (AO.size : Int)))) none).run Tryz.prog W = .ok (.string E) W := fun W => by
              rw [hNk, run_slice_string_h W 9 D Tryz.underlying9 .i64 k (by omega) (by omega)]
              have hx := str_extract d 0 k
              rw [HD.out, List.drop_zero, hE] at hx
              exact congrArg (fun z => Result.ok (Value.string z) W) hx
            have hEs : E.size ≤ 1400 := by rw [← hE]; show (d.take k).length ≤ 1400; rw [List.length_take]; omega
            have HSUM : Hid (∀ W : World, Calls Tryz.prog 210 #[.slice (some ⟨W.heap.size, 0, none⟩) 2 2] (W.alloc (.cells #[.string AO, .string E] 9)) fun e w' => e = .returned (.int .i64 (pkSum h os d)) ∧ (W.alloc (.cells #[.string AO, .string E] 9)) = w') := Lib.hid (fun W => by
              have hj : M.joined [AO, E] = (h.off1 os).bytes ++ M.putOpts os ++ d.take k := by
                unfold M.joined
                rw [HAOE.out, ← hE]
                simp [str]
              have hs := sumOf_at (w := W.alloc (.cells #[.string AO, .string E] 9)) (v := .slice (some ⟨W.heap.size, 0, none⟩) 2 2) (ss := [AO, E]) ⟨.inr ⟨⟨W.heap.size, 0, none⟩, 2, rfl, fun i hi => by
                  rw [Addr.add_mid, cell_of_row _ _ _ _ _ _ (heap_alloc_new W _)]
                  have : i = 0 ∨ i = 1 := by simp at hi; omega
                  rcases this with rfl | rfl <;> rfl⟩, by simp, by
                  intro s hs
                  simp at hs
                  unfold maxLen
                  rcases hs with rfl | rfl <;> omega, by
                  rw [hj]
                  have e1 : ((h.off1 os).bytes ++ M.putOpts os).length = AO.size := by rw [HAOE.out]; rfl
                  rw [List.length_append, e1, List.length_take]; omega⟩
              rw [hj] at hs
              unfold pkSum
              rw [hcl]
              exact hs)
            have hss : pkSum h os d ≤ 65535 := by unfold pkSum M.sum16; omega
            have HPH : Hid (∀ W, PSt w B C h (.slice va os.length vc) D (h.off1 os) W → PSt w B C h (.slice va os.length vc) D (pkHead h os d) (W.setCell ⟨C, 5, none⟩ (.int .i64 ((pkSum h os d : Nat) : Int)))) :=
              Lib.hid (fun W a => a.set (pkHead h os d) 5 _ rfl)
            have HNK := Lib.hid hNk; have HE := Lib.hid hE
            clear hcv hci hN hNk hE hkD HPE HCI hcl hAO4
            go_upto_region 14 with (first
              | (refine load_blk rfl _ rfl C rfl _ HST7.out.hd ?_)
              | (go_at_call 235; (with_reducible refine (HCV.out _).mono ?_); rintro e W8 ⟨rfl, hb8⟩))
            have st8 := HST7.out.below hb8
            have i16 := st8.pk.cells.2
            have st9 := st8.below (bel_alloc W8 (.cells #[.string AO, .string E] 9))
            have c5 := st9.hd.at_.2.2.2.2.2.1
            have f5 := st9.hd.free 5
            have HST9 := Lib.hid st9
            clear st8 st9 hb8 g16 HST7
            go_upto_region 15 with (go_at_call 210; refine (HSUM.out _).mono ?_; rintro e W9 ⟨rfl, rfl⟩)
            have st10 := HPH.out _ HST9.out
            generalize (W8.alloc (.cells #[.string AO, .string E] 9)).setCell ⟨C, 5, none⟩ (.int .i64 ((pkSum h os d : Nat) : Int)) = W10 at *
            have HPM := Lib.hid hpm
            have HP2 := Lib.hid (fun W => put_yes (pkHead h os d) W hpm hok.seq hok.ack hok.service hok.i0 hok.i1 hok.i2)
            obtain ⟨A2, hA2⟩ : ∃ A2, str (pkHead h os d).bytes = A2 := ⟨_, rfl⟩
            have hA2s : A2.size ≤ 28 := by
              rw [← hA2]
              show (pkHead h os d).bytes.length ≤ 28
              rw [bytes_len hpm]; exact sizeN_le _ _
            rw [hA2] at HP2
            have j16 := st10.pk.cells.2
            unfold Hd.val at HP2
            have HST10 := Lib.hid st10
            have HA2 := Lib.hid hA2
            have hOA : ¬ 9223372036854775807 < A2.size + O.size := by omega
            have hOD : ¬ 9223372036854775807 < (A2 ++ O).size + D.size := by rw [ByteArray.size_append]; omega
            obtain ⟨AO2, hAO2⟩ : ∃ AO2, A2 ++ O = AO2 := ⟨_, rfl⟩
            obtain ⟨R, hRR⟩ : ∃ R, AO2 ++ D = R := ⟨_, rfl⟩
            rw [hAO2] at hOD
            have HAO2 := Lib.hid hAO2; have HRR := Lib.hid hRR
            have HFIN : Hid (putText h os d = pkBytes h os d) := Lib.hid (by unfold putText; rw [if_pos HR.out])
            clear hA2 st10 hpm c5 f5 i16 HST9 HPH hrun HSUM HCV HPUT hA2s
            clear j16
            generalize hpk : pkHead h os d = pk at *
            have HPK := Lib.hid hpk
            clear hpk
            go_region_held3 (fun W => PSt w B C h (.slice va os.length vc) D pk W ∧ W.cell? ⟨C, 0, none⟩ = some (.int .i64 pk.src) ∧ W.cell? ⟨C, 1, none⟩ = some (.int .i64 pk.dst) ∧ W.cell? ⟨C, 2, none⟩ = some (.int .i64 pk.off) ∧ W.cell? ⟨C, 3, none⟩ = some (.int .i64 pk.cc) ∧ W.cell? ⟨C, 4, none⟩ = some (.int .i64 pk.cs) ∧ W.cell? ⟨C, 5, none⟩ = some (.int .i64 pk.sum) ∧ W.cell? ⟨C, 6, none⟩ = some (.int .i64 pk.type) ∧ W.cell? ⟨C, 7, none⟩ = some (.bool pk.x) ∧ W.cell? ⟨C, 8, none⟩ = some (.int .u64 pk.seq) ∧ W.cell? ⟨C, 9, none⟩ = some (.int .u64 pk.ack) ∧ W.cell? ⟨C, 10, none⟩ = some (.int .u32 pk.service) ∧ W.cell? ⟨C, 11, none⟩ = some (.int .i64 pk.code) ∧ W.cell? ⟨C, 12, none⟩ = some (.int .u8 pk.i0) ∧ W.cell? ⟨C, 13, none⟩ = some (.int .u8 pk.i1) ∧ W.cell? ⟨C, 14, none⟩ = some (.int .u8 pk.i2) ∧ W.cell? ⟨B, 16, none⟩ = some (.string D))
              (first | exact HST10.out.s | exact HST10.out.drew.s | exact (PSt.below (And.left ‹PSt w B C h (.slice va os.length vc) D pk _ ∧ _›) hb11).s)
              (first
              | (go_at_call 234; refine (HP2.out _).mono ?_; rintro e W11 ⟨rfl, hb11⟩))
            all_goals (
              go_wp2
              go_ret2
              refine ret_put (by rw [HR.out]; rfl) ?_ (HST10.out.drew.below hb11).bel
              rw [HFIN.out, pkBytes, HPK.out, ← HRR.out, ← HAO2.out, ← HA2.out, ← HO.out, ← HD.out, str_append, str_append])
          · have hcf := Bool.eq_false_iff.2 hcv
            have HR : Hid (putErr h os d = 5) := Lib.hid (by rw [HPE.out, if_pos hcf])
            rw [hcf] at HCV
            generalize covI (4 * q + d.length : Nat) (4 * q : Nat) h.cs = N at *
            clear hcv hcf HPE HCI
            go_wp2_with (first
              | (refine load_blk rfl _ rfl C rfl _ HST7.out.hd ?_)
              | (go_at_call 235; (with_reducible refine (HCV.out _).mono ?_); rintro e W8 ⟨rfl, hb8⟩))
            go_ret2
            exact ret_put (by rw [HR.out]; rfl) (by unfold putText; rw [if_neg (by rw [HR.out]; decide)]; rfl) (HST7.out.below hb8).bel
  · have hmf := Bool.eq_false_iff.2 hm
    rw [hmf] at HMAY
    have HR : Hid (putErr h os d = 3) := Lib.hid (by rw [HPE.out, if_pos hmf])
    clear hm hmf HPE
    go_wp2_with (first
      | (refine load_blk rfl _ rfl C rfl _ HST.out.hd ?_)
      | (go_at_call 231; refine (HMAY.out _).mono ?_; rintro e W3 ⟨rfl, hb3⟩))
    go_ret2
    exact ret_put (by rw [HR.out]; rfl) (by unfold putText; rw [if_neg (by rw [HR.out]; decide)]; rfl) (HST.out.below hb3).bel
end Go.Proofs.YtnhlachoimlhhaaGreatDoor
