/-
  Packets: a head laid bare, how large, how much is covered.
  What pkt.Put answers: the plain functions, and laws on heads' bytes.
-/
import Derived.Test.YtbiglbclifbmhaaGreatDoorOpB
import Derived.Test.YtbiglbclifbmhaaGreatDoorSumM
import Derived.Deep.MidRow
import Derived.Test.YtbiglbclifbmhaaGreatDoorHdB
namespace Go.Proofs.YtbiglbclifbmhaaGreatDoor
open Go.ChangeShapes Go.WideShapes Go.ChangeAt Go.RowKit
set_option linter.unusedVariables false

def Hd.bare (h : Hd) : Hd := { h with off := (sizeN h.type h.x / 4 : Nat), sum := 0 }

theorem load_blk {ops : Array Oper} {rest : List Oper} {o : Oper} {a : Act} {w : World} {Q : Exit → Act → World → Prop} (hgd : o.guard = none) (x : Operand) (ho : o.op = .load 151 x)
    (C : Nat) (hx : a.eval x = .pointer (some ⟨C, 0, none⟩)) (h : Hd) (hb : HdBlk h C w)
    (hh : wpList Tryz.prog ops Q rest (a.put o.dst h.val) w) : wpList Tryz.prog ops Q (o :: rest) a w :=
  wpList_load_row hgd 151 x ho C hx 151 h.cellsA (0, 0) _ hb Tryz.underlying151 rfl infoHd hh

theorem store_blk {ops : Array Oper} {rest : List Oper} {o : Oper} {a : Act} {w : World} {Q : Exit → Act → World → Prop} (hgd : o.guard = none) (x y : Operand) (ho : o.op = .store 151 x y)
    (C : Nat) (h h2 : Hd) (hx : a.eval x = .pointer (some ⟨C, 0, none⟩)) (hy : a.eval y = h2.val) (hb : HdBlk h C w)
    (hh : ∀ w', HdBlk h2 C w' → w.grownBy w' (some C) → wpList Tryz.prog ops Q rest (a.put o.dst undef) w') : wpList Tryz.prog ops Q (o :: rest) a w :=
  wpList_store_row hgd 151 x y ho C h2.cellsA hx hy 151 h.cellsA hb infoHd rfl (cellsA_one _) (hh _ (setRow_blk hb) (grown_setRow _ _ _))

theorem results_hd {fn : Func} {p : Tmp} (h : fn.results = #[.cell p 151]) (tmps : Array Value) (w : World) (g : Nat) (hd : Hd) (hp : tmps.getD p undef = .pointer (some ⟨g, 0, none⟩)) (hb : HdBlk hd g w) :
    (results fn tmps).run Tryz.prog w = .ok hd.val w :=
  results_cell_row h tmps w g 151 hd.cellsA (0, 0) _ hp hb Tryz.underlying151 rfl infoHd

set_option maxHeartbeats 1000000 in
set_option maxRecDepth 100000 in
theorem bare_any (h : Hd) (w : World) :
    Calls Tryz.prog 119 #[h.val] w fun e w' => e = .returned h.bare.val ∧ Below w.heap.size w w' := by
  have HSZ := Lib.hid (fun w => size_any h.type h.x w)
  have hs := sizeN_le h.type h.x
  have HBR : Hid (h.bare = { h with off := (sizeN h.type h.x / 4 : Nat), sum := 0 }) := Lib.hid rfl
  generalize sizeN h.type h.x = n at *
  have hz : Hd.zero.box = Obj.cells #[Value.int IntKind.i64 0, Value.int IntKind.i64 0, Value.int IntKind.i64 0, Value.int IntKind.i64 0, Value.int IntKind.i64 0, Value.int IntKind.i64 0, Value.int IntKind.i64 0, Value.bool false, Value.int IntKind.u64 0, Value.int IntKind.u64 0, Value.int IntKind.u32 0, Value.int IntKind.i64 0, Value.int IntKind.u8 0, Value.int IntKind.u8 0, Value.int IntKind.u8 0] 151 := rfl
  have s1 : ∀ b, (w.alloc b).heap.size = w.heap.size + 1 := fun b => by simp
  have HA : Hid (HdBlk h w.heap.size ((w.alloc h.box).alloc Hd.zero.box) ∧ HdBlk Hd.zero (w.heap.size + 1) ((w.alloc h.box).alloc Hd.zero.box) ∧ Below w.heap.size w ((w.alloc h.box).alloc Hd.zero.box)) := by
    refine Lib.hid ⟨(show HdBlk h w.heap.size (w.alloc h.box) from heap_alloc_new w _).other (World.grownBy_alloc _ _ none) (by simp), ?_, bel_trans (bel_alloc _ _) (bel_alloc _ _)⟩
    have := heap_alloc_new (w.alloc h.box) Hd.zero.box
    rwa [s1] at this
  rw [hz] at HA
  unfold Hd.box at HA
  clear hz s1
  unfold Hd.val
  go_enter Tryz.func119, Tryz.ntmps119
  go_upto_region 1 with fail
  obtain ⟨hb, hc, hbel⟩ := HA.out
  clear HA
  obtain ⟨B, hB⟩ : ∃ B, B = w.heap.size := ⟨_, rfl⟩
  rw [← hB] at hb hc ⊢
  generalize ((w.alloc (Obj.cells #[.int .i64 h.src, .int .i64 h.dst, .int .i64 h.off, .int .i64 h.cc, .int .i64 h.cs, .int .i64 h.sum, .int .i64 h.type, .bool h.x, .int .u64 h.seq, .int .u64 h.ack, .int .u32 h.service, .int .i64 h.code, .int .u8 h.i0, .int .u8 h.i1, .int .u8 h.i2] 151)).alloc _) = W0 at *
  have c6 := hb.at_.2.2.2.2.2.2.1
  have c7 := hb.at_.2.2.2.2.2.2.2.1
  have c2 := hb.at_.2.2.1
  have f2 := hb.free 2
  have HB := Lib.hid hb; have HC := Lib.hid hc; have HBEL := Lib.hid hbel; have HBB := Lib.hid hB
  clear hb hc hbel hB
  go_upto_region 2 with (go_at_call 100; refine (HSZ.out _).mono ?_; rintro e w1 ⟨rfl, rfl⟩)
  have hb1 := HB.out.set { h with off := (n / 4 : Nat) } 2 (.int .i64 ((n / 4 : Nat) : Int)) rfl
  have hc1 := HC.out.other (grown_set W0 B 2 (.int .i64 ((n / 4 : Nat) : Int))) (by simp)
  have g1 := grown_set W0 B 2 (.int .i64 ((n / 4 : Nat) : Int))
  rw [show (((n / 4 : Nat) : Int)) = (n : Int) / 4 by simp] at hb1 hc1 g1
  generalize W0.setCell ⟨B, 2, none⟩ (.int .i64 ((n : Int) / 4)) = W1 at *
  have f5 := hb1.free 5
  have c5 := hb1.at_.2.2.2.2.2.1
  have HB1 := Lib.hid hb1; have HC1 := Lib.hid hc1; have HG1 := Lib.hid g1
  clear hb1 hc1 g1 c6 c7 c2 f2 HB HC
  go_upto_region 3 with fail
  have hb2 := HB1.out.set { h with off := (n : Int) / 4, sum := 0 } 5 (.int .i64 0) rfl
  have hc2 := HC1.out.other (grown_set W1 B 5 (.int .i64 0)) (by simp)
  have g2 := HG1.out.trans (grown_set W1 B 5 (.int .i64 0))
  generalize W1.setCell ⟨B, 5, none⟩ (.int .i64 0) = W2 at *
  have HB2 := Lib.hid hb2; have HC2 := Lib.hid hc2; have HG2 := Lib.hid g2
  clear hb2 hc2 g2 f5 c5 HB1 HC1 HG1
  iterate 1 go_step
  refine load_blk rfl _ rfl B rfl _ HB2.out ?_
  refine store_blk rfl _ _ rfl (B + 1) _ { h with off := (n : Int) / 4, sum := 0 } rfl rfl HC2.out ?_
  intro W3 hb3 hg3
  have HB3 := Lib.hid hb3; have HG3 := Lib.hid hg3
  clear hb3 hg3
  go_wp2
  refine bodyPost_ret (results_hd Tryz.results119 _ _ (B + 1) _ rfl HB3.out) rfl ⟨?_, ?_⟩
  · rw [HBR.out]; simp; rfl
  · have h1 : Below w.heap.size w W2 := HBEL.out.grown HG2.out HBEL.out.size (fun k hk => by cases hk; rw [HBB.out]; exact Nat.le_refl _)
    exact h1.grown HG3.out h1.size (fun k hk => by cases hk; rw [HBB.out]; omega)

def largeB (o d : Nat) : Bool := decide (255 < o ∨ 1400 < d ∨ 2500 < 4 * o + d)
theorem isLarge_any (o d : Nat) (ho : o ≤ 1000000000000) (hd : d ≤ 9223372036854775807) (w : World) :
    Calls Tryz.prog 122 #[.int .i64 o, .int .i64 d] w fun e w' => e = .returned (.bool (largeB o d)) ∧ w = w' := by
  have HL : Hid (largeB o d = decide (255 < o ∨ 1400 < d ∨ 2500 < 4 * o + d)) := Lib.hid rfl
  by_cases h1 : 255 < o
  · have d1 := decide_eq_true h1
    have HR : Hid (largeB o d = true) := Lib.hid (by rw [HL.out]; exact decide_eq_true (.inl h1))
    go_enter Tryz.func122, Tryz.ntmps122
    go_wp2
    go_ret
    exact ⟨ret_boolE (by rw [HR.out]), rfl⟩
  have d1 := decide_eq_false h1
  by_cases h2 : 1400 < d
  · have d2 := decide_eq_true h2
    have HR : Hid (largeB o d = true) := Lib.hid (by rw [HL.out]; exact decide_eq_true (.inr (.inl h2)))
    go_enter Tryz.func122, Tryz.ntmps122
    go_wp2
    go_ret
    exact ⟨ret_boolE (by rw [HR.out]), rfl⟩
  have d2 := decide_eq_false h2
  have HR : Hid (largeB o d = (decide (255 < (o : Int)) || decide (1400 < (d : Int)) || decide ((2500 : Int) < 4 * (o : Int) + d))) := Lib.hid (by
    rw [HL.out, decide_eq_false (p := 255 < (o : Int)) (by omega), decide_eq_false (p := 1400 < (d : Int)) (by omega), Bool.false_or, Bool.false_or, decide_eq_decide]; omega)
  go_enter Tryz.func122, Tryz.ntmps122
  go_wp2
  go_ret
  exact ⟨ret_boolE (by rw [HR.out]), rfl⟩

theorem covered_hd (h : Hd) (t : Int) (w : World) (t1 : -9223372036854775808 ≤ t) (t2 : t ≤ 9223372036854775807) (o1 : 0 ≤ h.off) (o2 : h.off ≤ 1000000000) (c1 : -9223372036854775808 ≤ h.cs) (c2 : h.cs ≤ 9223372036854775807) :
    Calls Tryz.prog 124 #[h.val, .int .i64 t] w fun e w' => e = .returned (.tuple #[.int .i64 (covI t (4 * h.off) h.cs), .bool (covB t (4 * h.off) h.cs)]) ∧ Below w.heap.size w w' := by
  have HC := Lib.hid (fun w => covered_any t (4 * h.off) h.cs t1 t2 (by omega) (by omega) c1 c2 w)
  unfold Hd.val
  go_enter Tryz.func124, Tryz.ntmps124
  go_wp2_with (go_at_call 157; refine (HC.out _).mono ?_; rintro e w1 ⟨rfl, rfl⟩)
  go_ret2
  exact ⟨rfl, bel_alloc _ _⟩
end Go.Proofs.YtbiglbclifbmhaaGreatDoor

namespace Go.Proofs.YtbiglbclifbmhaaGreatDoor
open Go.ChangeShapes Go.WideShapes Go.ChangeAt Go.RowKit
set_option linter.unusedVariables false

/-- A head's numbers are of their kinds. -/
structure Hd.ok (h : Hd) : Prop where
  seq : h.seq < 18446744073709551616
  ack : h.ack < 18446744073709551616
  service : h.service < 4294967296
  i0 : h.i0 < 256
  i1 : h.i1 < 256
  i2 : h.i2 < 256

def offN (h : Hd) (os : List M.Opt) : Nat := sizeN h.type h.x / 4 + (M.putOpts os).length / 4
/-- The head with its Off, not yet summed. -/
def Hd.off1 (h : Hd) (os : List M.Opt) : Hd := { h.bare with off := (offN h os : Nat) }
/-- Which error pkt.Put answers; 0: none. -/
def putErr (h : Hd) (os : List M.Opt) (d : List UInt8) : Nat :=
  if h.bare.mayB = false then 3 else if (M.putOpts os).length = 0 ∧ 0 < os.length then 7
  else if largeB (offN h os) d.length = true then 13
  else if covB (4 * offN h os + d.length : Nat) (4 * offN h os : Nat) h.cs = false then 5 else 0
def covLen (h : Hd) (os : List M.Opt) (d : List UInt8) : Nat := (covI (4 * offN h os + d.length : Nat) (4 * offN h os : Nat) h.cs).toNat - 4 * offN h os
def pkSum (h : Hd) (os : List M.Opt) (d : List UInt8) : Nat := M.sum16 ((h.off1 os).bytes ++ M.putOpts os ++ d.take (covLen h os d))
def pkHead (h : Hd) (os : List M.Opt) (d : List UInt8) : Hd := { h.off1 os with sum := (pkSum h os d : Nat) }
def pkBytes (h : Hd) (os : List M.Opt) (d : List UInt8) : List UInt8 := (pkHead h os d).bytes ++ M.putOpts os ++ d
def putText (h : Hd) (os : List M.Opt) (d : List UInt8) : List UInt8 := if putErr h os d = 0 then pkBytes h os d else []

theorem sizeN_four (t : Int) (x : Bool) : sizeN t x % 4 = 0 := by
  unfold sizeN; (repeat' split) <;> omega

theorem bytes_len {h : Hd} (hm : h.mayB = true) : h.bytes.length = sizeN h.type h.x := by
  have hz : sizeN h.type h.x ≠ 0 := by
    unfold Hd.mayB at hm; simp only [Bool.and_eq_true] at hm; exact of_decide_eq_true hm.1
  have hp := size_parts hz
  have e1 : h.seqBytes.length = seqPad h.x + numLen h.x := by unfold Hd.seqBytes; rw [beBytes_length]
  have e2 : h.ackBytes.length = if hasAckB h.type = true then ackPad h.x + numLen h.x else 0 := by
    unfold Hd.ackBytes; split
    · rw [beBytes_length]
    · rfl
  have e3 : h.extraBytes.length = extraLen h := by
    unfold Hd.extraBytes extraLen; split
    · rw [beBytes_length]
    · split
      · rw [List.length_append, beBytes_length]; rfl
      · rfl
  rw [hp]
  unfold Hd.bytes numsLen
  simp only [List.length_append, beBytes_length, e1, e2, e3]

theorem mayB_with {h : Hd} (hm : h.mayB = true) (o s : Nat) (ho : sizeN h.type h.x / 4 ≤ o) (ho2 : o ≤ 255) (hs : s ≤ 65535) : ({ h with off := (o : Int), sum := (s : Int) } : Hd).mayB = true := by
  unfold Hd.mayB at hm ⊢
  simp only [Bool.and_eq_true] at hm ⊢
  obtain ⟨a1, a2, a3, a4, a5, a6, a7, a8⟩ := hm
  refine ⟨a1, a2, a3, ?_, a5, a6, ?_, a8⟩
  · show btw ((sizeN h.type h.x / 4 : Nat) : Int) (o : Int) 255 = true
    unfold btw; rw [Bool.and_eq_true]; exact ⟨decide_eq_true (by omega), decide_eq_true (by omega)⟩
  · show btw 0 (s : Int) 65535 = true
    unfold btw; rw [Bool.and_eq_true]; exact ⟨decide_eq_true (by omega), decide_eq_true (by omega)⟩

theorem off1_may {h : Hd} {os : List M.Opt} (hm : h.bare.mayB = true) (ho : offN h os ≤ 255) : (h.off1 os).mayB = true := by
  have := mayB_with hm (offN h os) 0 (by show sizeN h.type h.x / 4 ≤ _; unfold offN; omega) ho (by omega)
  exact this
theorem pkHead_may {h : Hd} {os : List M.Opt} {d : List UInt8} (hm : h.bare.mayB = true) (ho : offN h os ≤ 255) : (pkHead h os d).mayB = true := by
  have := mayB_with hm (offN h os) (pkSum h os d) (by show sizeN h.type h.x / 4 ≤ _; unfold offN; omega) ho (by unfold pkSum M.sum16; omega)
  exact this
theorem off1_len {h : Hd} {os : List M.Opt} (hm : h.bare.mayB = true) (ho : offN h os ≤ 255) : (h.off1 os).bytes.length = sizeN h.type h.x := bytes_len (off1_may hm ho)
theorem putOpts_len4 (os : List M.Opt) : (M.putOpts os).length % 4 = 0 := by
  unfold M.putOpts; split
  · exact (M.pad4_len _).1
  · rfl
theorem ahead_len {h : Hd} {os : List M.Opt} (hm : h.bare.mayB = true) (ho : offN h os ≤ 255) : ((h.off1 os).bytes ++ M.putOpts os).length = 4 * offN h os := by
  have h1 := sizeN_four h.type h.x
  have h2 := putOpts_len4 os
  rw [List.length_append, off1_len hm ho]
  unfold offN; omega
theorem putOpts_le (os : List M.Opt) (h : os.length ≤ 1073741824) : (M.putOpts os).length ≤ 273804165123 := by
  unfold M.putOpts; split
  · rename_i ha
    have h1 := (M.pad4_len (M.optsBytes os)).2.2
    have h2 := M.optsBytes_len os ha
    omega
  · simp

def Pv (h : Hd) (v : Value) (s : ByteArray) : Value := .agg #[.int .i64 h.src, .int .i64 h.dst, .int .i64 h.off, .int .i64 h.cc, .int .i64 h.cs, .int .i64 h.sum, .int .i64 h.type, .bool h.x, .int .u64 h.seq, .int .u64 h.ack, .int .u32 h.service, .int .i64 h.code, .int .u8 h.i0, .int .u8 h.i1, .int .u8 h.i2, v, .string s]
def pkCells (h : Hd) (v : Value) (s : ByteArray) : Array Value := #[.int .i64 h.src, .int .i64 h.dst, .int .i64 h.off, .int .i64 h.cc, .int .i64 h.cs, .int .i64 h.sum, .int .i64 h.type, .bool h.x, .int .u64 h.seq, .int .u64 h.ack, .int .u32 h.service, .int .i64 h.code, .int .u8 h.i0, .int .u8 h.i1, .int .u8 h.i2, v, .string s]
def PkBox (h : Hd) (v : Value) (s : ByteArray) : Obj := .cells (pkCells h v s) 156
/-- The packet at block B. -/
def PkBlk (h : Hd) (v : Value) (s : ByteArray) (B : Nat) (w : World) : Prop := w.heap[B]? = some (PkBox h v s)
theorem PkBlk.cells {h : Hd} {v : Value} {s : ByteArray} {B : Nat} {w : World} (a : PkBlk h v s B w) : w.cell? ⟨B, 15, none⟩ = some v ∧ w.cell? ⟨B, 16, none⟩ = some (.string s) := by
  unfold PkBlk PkBox at a
  simp only [cell_of_row w B _ _ _ _ a]
  exact ⟨rfl, rfl⟩
theorem PkBlk.range {h : Hd} {v : Value} {s : ByteArray} {B : Nat} {w : World} (a : PkBlk h v s B w) : w.rangeAt B 0 h.cellsA.toList := by
  intro j u hj
  unfold PkBlk PkBox at a
  rw [cell_of_row w B _ _ _ _ a, Nat.zero_add]
  have hl : j < 15 := by
    rcases Nat.lt_or_ge j 15 with h | h
    · exact h
    · rw [List.getElem?_eq_none (by show 15 ≤ j; exact h)] at hj; cases hj
  have : j = 0 ∨ j = 1 ∨ j = 2 ∨ j = 3 ∨ j = 4 ∨ j = 5 ∨ j = 6 ∨ j = 7 ∨ j = 8 ∨ j = 9 ∨ j = 10 ∨ j = 11 ∨ j = 12 ∨ j = 13 ∨ j = 14 := by omega
  rcases this with rfl | rfl | rfl | rfl | rfl | rfl | rfl | rfl | rfl | rfl | rfl | rfl | rfl | rfl | rfl <;> exact hj
theorem PkBlk.lt {h : Hd} {v : Value} {s : ByteArray} {B : Nat} {w : World} (a : PkBlk h v s B w) : B < w.heap.size := by
  rcases Nat.lt_or_ge B w.heap.size with hlt | hge
  · exact hlt
  · unfold PkBlk at a; rw [Array.getElem?_eq_none hge] at a; cases a
theorem PkBlk.other {h : Hd} {v : Value} {s : ByteArray} {B : Nat} {w w' : World} {row : Option Nat} (a : PkBlk h v s B w) (hg : w.grownBy w' row) (hne : some B ≠ row) : PkBlk h v s B w' := by
  unfold PkBlk; rw [hg.block B a.lt hne]; exact a
theorem PkBlk.below {h : Hd} {v : Value} {s : ByteArray} {B : Nat} {w w' : World} (a : PkBlk h v s B w) (hb : Below w.heap.size w w') : PkBlk h v s B w' := by
  unfold PkBlk; rw [hb.block B a.lt]; exact a
theorem PkBlk.new (h : Hd) (v : Value) (s : ByteArray) (w : World) : PkBlk h v s w.heap.size (w.alloc (PkBox h v s)) := heap_alloc_new w _
theorem HdBlk.below {h : Hd} {B : Nat} {w w' : World} (a : HdBlk h B w) (hb : Below w.heap.size w w') : HdBlk h B w' := by
  unfold HdBlk; rw [hb.block B a.lt]; exact a

theorem load_mid {ops : Array Oper} {rest : List Oper} {o : Oper} {a : Act} {w : World} {Q : Exit → Act → World → Prop} (hgd : o.guard = none) (x : Operand) (ho : o.op = .load 151 x)
    (B : Nat) (hx : a.eval x = .pointer (some ⟨B, 0, none⟩)) (h : Hd) (v : Value) (s : ByteArray) (hb : PkBlk h v s B w)
    (hh : wpList Tryz.prog ops Q rest (a.put o.dst h.val) w) : wpList Tryz.prog ops Q (o :: rest) a w :=
  wpList_load_mid hgd 151 x ho B 0 hx h.cellsA.toList _ hb.range Tryz.underlying151 rfl infoHd hh
end Go.Proofs.YtbiglbclifbmhaaGreatDoor
