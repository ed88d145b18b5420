/-
  What pkt.Put answers: the plain functions, and laws on heads' bytes.
-/
import Derived.Test.YtdlpapchjjbplaaGreatDoorPktA
import Derived.Test.YtdlpapchjjbplaaGreatDoorHeadF
namespace Go.Proofs.YtdlpapchjjbplaaGreatDoor
open Go.ChangeShapes Go.WideShapes Go.ChangeAt Go.RowKit
set_option linter.unusedVariables false

/-- A head's numbers are of their kinds. -/
structure Hd.ok (h : Hd) : Prop where
  seq : h.seq < 18446744073709551616
  ack : h.ack < 18446744073709551616
  service : h.service < 4294967296
  i0 : h.i0 < 256
  i1 : h.i1 < 256
  i2 : h.i2 < 256

def offN (h : Hd) (os : List M.Opt) : Nat := sizeN h.type h.x / 4 + (M.putOpts os).length / 4
/-- The head with its Off, not yet summed. -/
def Hd.off1 (h : Hd) (os : List M.Opt) : Hd := { h.bare with off := (offN h os : Nat) }
/-- Which error pkt.Put answers; 0: none. -/
def putErr (h : Hd) (os : List M.Opt) (d : List UInt8) : Nat :=
  if h.bare.mayB = false then 3 else if (M.putOpts os).length = 0 ∧ 0 < os.length then 7
  else if largeB (offN h os) d.length = true then 13
  else if covB (4 * offN h os + d.length : Nat) (4 * offN h os : Nat) h.cs = false then 5 else 0
def covLen (h : Hd) (os : List M.Opt) (d : List UInt8) : Nat := (covI (4 * offN h os + d.length : Nat) (4 * offN h os : Nat) h.cs).toNat - 4 * offN h os
def pkSum (h : Hd) (os : List M.Opt) (d : List UInt8) : Nat := M.sum16 ((h.off1 os).bytes ++ M.putOpts os ++ d.take (covLen h os d))
def pkHead (h : Hd) (os : List M.Opt) (d : List UInt8) : Hd := { h.off1 os with sum := (pkSum h os d : Nat) }
def pkBytes (h : Hd) (os : List M.Opt) (d : List UInt8) : List UInt8 := (pkHead h os d).bytes ++ M.putOpts os ++ d
def putText (h : Hd) (os : List M.Opt) (d : List UInt8) : List UInt8 := if putErr h os d = 0 then pkBytes h os d else []

theorem sizeN_four (t : Int) (x : Bool) : sizeN t x % 4 = 0 := by
  unfold sizeN; (repeat' split) <;> omega

theorem bytes_len {h : Hd} (hm : h.mayB = true) : h.bytes.length = sizeN h.type h.x := by
  have hz : sizeN h.type h.x ≠ 0 := by
    unfold Hd.mayB at hm; simp only [Bool.and_eq_true] at hm; exact of_decide_eq_true hm.1
  have hp := size_parts hz
  have e1 : h.seqBytes.length = seqPad h.x + numLen h.x := by unfold Hd.seqBytes; rw [beBytes_length]
  have e2 : h.ackBytes.length = if hasAckB h.type = true then ackPad h.x + numLen h.x else 0 := by
    unfold Hd.ackBytes; split
    · rw [beBytes_length]
    · rfl
  have e3 : h.extraBytes.length = extraLen h := by
    unfold Hd.extraBytes extraLen; split
    · rw [beBytes_length]
    · split
      · rw [List.length_append, beBytes_length]; rfl
      · rfl
  rw [hp]
  unfold Hd.bytes numsLen
  simp only [List.length_append, beBytes_length, e1, e2, e3]

theorem mayB_with {h : Hd} (hm : h.mayB = true) (o s : Nat) (ho : sizeN h.type h.x / 4 ≤ o) (ho2 : o ≤ 255) (hs : s ≤ 65535) : ({ h with off := (o : Int), sum := (s : Int) } : Hd).mayB = true := by
  unfold Hd.mayB at hm ⊢
  simp only [Bool.and_eq_true] at hm ⊢
  obtain ⟨a1, a2, a3, a4, a5, a6, a7, a8⟩ := hm
  refine ⟨a1, a2, a3, ?_, a5, a6, ?_, a8⟩
  · show btw ((sizeN h.type h.x / 4 : Nat) : Int) (o : Int) 255 = true
    unfold btw; rw [Bool.and_eq_true]; exact ⟨decide_eq_true (by omega), decide_eq_true (by omega)⟩
  · show btw 0 (s : Int) 65535 = true
    unfold btw; rw [Bool.and_eq_true]; exact ⟨decide_eq_true (by omega), decide_eq_true (by omega)⟩

theorem off1_may {h : Hd} {os : List M.Opt} (hm : h.bare.mayB = true) (ho : offN h os ≤ 255) : (h.off1 os).mayB = true := by
  have := mayB_with hm (offN h os) 0 (by show sizeN h.type h.x / 4 ≤ _; unfold offN; omega) ho (by omega)
  exact this
theorem pkHead_may {h : Hd} {os : List M.Opt} {d : List UInt8} (hm : h.bare.mayB = true) (ho : offN h os ≤ 255) : (pkHead h os d).mayB = true := by
  have := mayB_with hm (offN h os) (pkSum h os d) (by show sizeN h.type h.x / 4 ≤ _; unfold offN; omega) ho (by unfold pkSum M.sum16; omega)
  exact this
theorem off1_len {h : Hd} {os : List M.Opt} (hm : h.bare.mayB = true) (ho : offN h os ≤ 255) : (h.off1 os).bytes.length = sizeN h.type h.x := bytes_len (off1_may hm ho)
theorem putOpts_len4 (os : List M.Opt) : (M.putOpts os).length % 4 = 0 := by
  unfold M.putOpts; split
  · exact (M.pad4_len _).1
  · rfl
theorem ahead_len {h : Hd} {os : List M.Opt} (hm : h.bare.mayB = true) (ho : offN h os ≤ 255) : ((h.off1 os).bytes ++ M.putOpts os).length = 4 * offN h os := by
  have h1 := sizeN_four h.type h.x
  have h2 := putOpts_len4 os
  rw [List.length_append, off1_len hm ho]
  unfold offN; omega
theorem putOpts_le (os : List M.Opt) (h : os.length ≤ 1073741824) : (M.putOpts os).length ≤ 273804165123 := by
  unfold M.putOpts; split
  · rename_i ha
    have h1 := (M.pad4_len (M.optsBytes os)).2.2
    have h2 := M.optsBytes_len os ha
    omega
  · simp

def Pv (h : Hd) (v : Value) (s : ByteArray) : Value := .agg #[.int .i64 h.src, .int .i64 h.dst, .int .i64 h.off, .int .i64 h.cc, .int .i64 h.cs, .int .i64 h.sum, .int .i64 h.type, .bool h.x, .int .u64 h.seq, .int .u64 h.ack, .int .u32 h.service, .int .i64 h.code, .int .u8 h.i0, .int .u8 h.i1, .int .u8 h.i2, v, .string s]
def pkCells (h : Hd) (v : Value) (s : ByteArray) : Array Value := #[.int .i64 h.src, .int .i64 h.dst, .int .i64 h.off, .int .i64 h.cc, .int .i64 h.cs, .int .i64 h.sum, .int .i64 h.type, .bool h.x, .int .u64 h.seq, .int .u64 h.ack, .int .u32 h.service, .int .i64 h.code, .int .u8 h.i0, .int .u8 h.i1, .int .u8 h.i2, v, .string s]
def PkBox (h : Hd) (v : Value) (s : ByteArray) : Obj := .cells (pkCells h v s) 71
/-- The packet at block B. -/
def PkBlk (h : Hd) (v : Value) (s : ByteArray) (B : Nat) (w : World) : Prop := w.heap[B]? = some (PkBox h v s)
theorem PkBlk.cells {h : Hd} {v : Value} {s : ByteArray} {B : Nat} {w : World} (a : PkBlk h v s B w) : w.cell? ⟨B, 15, none⟩ = some v ∧ w.cell? ⟨B, 16, none⟩ = some (.string s) := by
  unfold PkBlk PkBox at a
  simp only [cell_of_row w B _ _ _ _ a]
  exact ⟨rfl, rfl⟩
theorem PkBlk.range {h : Hd} {v : Value} {s : ByteArray} {B : Nat} {w : World} (a : PkBlk h v s B w) : w.rangeAt B 0 h.cellsA.toList := by
  intro j u hj
  unfold PkBlk PkBox at a
  rw [cell_of_row w B _ _ _ _ a, Nat.zero_add]
  have hl : j < 15 := by
    rcases Nat.lt_or_ge j 15 with h | h
    · exact h
    · rw [List.getElem?_eq_none (by show 15 ≤ j; exact h)] at hj; cases hj
  have : j = 0 ∨ j = 1 ∨ j = 2 ∨ j = 3 ∨ j = 4 ∨ j = 5 ∨ j = 6 ∨ j = 7 ∨ j = 8 ∨ j = 9 ∨ j = 10 ∨ j = 11 ∨ j = 12 ∨ j = 13 ∨ j = 14 := by omega
  rcases this with rfl | rfl | rfl | rfl | rfl | rfl | rfl | rfl | rfl | rfl | rfl | rfl | rfl | rfl | rfl <;> exact hj
theorem PkBlk.lt {h : Hd} {v : Value} {s : ByteArray} {B : Nat} {w : World} (a : PkBlk h v s B w) : B < w.heap.size := by
  rcases Nat.lt_or_ge B w.heap.size with hlt | hge
  · exact hlt
  · unfold PkBlk at a; rw [Array.getElem?_eq_none hge] at a; cases a
theorem PkBlk.other {h : Hd} {v : Value} {s : ByteArray} {B : Nat} {w w' : World} {row : Option Nat} (a : PkBlk h v s B w) (hg : w.grownBy w' row) (hne : some B ≠ row) : PkBlk h v s B w' := by
  unfold PkBlk; rw [hg.block B a.lt hne]; exact a
theorem PkBlk.below {h : Hd} {v : Value} {s : ByteArray} {B : Nat} {w w' : World} (a : PkBlk h v s B w) (hb : Below w.heap.size w w') : PkBlk h v s B w' := by
  unfold PkBlk; rw [hb.block B a.lt]; exact a
theorem PkBlk.new (h : Hd) (v : Value) (s : ByteArray) (w : World) : PkBlk h v s w.heap.size (w.alloc (PkBox h v s)) := heap_alloc_new w _
theorem HdBlk.below {h : Hd} {B : Nat} {w w' : World} (a : HdBlk h B w) (hb : Below w.heap.size w w') : HdBlk h B w' := by
  unfold HdBlk; rw [hb.block B a.lt]; exact a

theorem load_mid {ops : Array Oper} {rest : List Oper} {o : Oper} {a : Act} {w : World} {Q : Exit → Act → World → Prop} (hgd : o.guard = none) (x : Operand) (ho : o.op = .load 39 x)
    (B : Nat) (hx : a.eval x = .pointer (some ⟨B, 0, none⟩)) (h : Hd) (v : Value) (s : ByteArray) (hb : PkBlk h v s B w)
    (hh : wpList Tryz.prog ops Q rest (a.put o.dst h.val) w) : wpList Tryz.prog ops Q (o :: rest) a w :=
  wpList_load_mid hgd 39 x ho B 0 hx h.cellsA.toList _ hb.range Tryz.underlying39 rfl infoHd hh
end Go.Proofs.YtdlpapchjjbplaaGreatDoor
