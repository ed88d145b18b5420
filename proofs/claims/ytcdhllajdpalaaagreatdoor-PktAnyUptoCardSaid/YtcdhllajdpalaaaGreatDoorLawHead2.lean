/-
  The law HeadPrefix, walked.
-/
import Derived.Test.YtcdhllajdpalaaaGreatDoorLawSum
import Derived.Test.YtcdhllajdpalaaaGreatDoorMayH
import Derived.Test.YtcdhllajdpalaaaGreatDoorHdEq
import Derived.Test.YtcdhllajdpalaaaGreatDoorPkB
import Derived.Test.YtcdhllajdpalaaaGreatDoorOpenHd
namespace Go.Proofs.YtcdhllajdpalaaaGreatDoor
open Go.ChangeShapes Go.WideShapes Go.ChangeAt Go.RowKit
set_option linter.unusedVariables false

/-- A whole head loaded, guarded or not. -/
theorem load_blk_w {ops : Array Oper} {rest : List Oper} {o : Oper} {a : Act} {w : World} {Q : Exit → Act → World → Prop} (hgd : Region.wanted o (yielded ops a.tmps) = true) (x : Operand) (ho : o.op = .load 26 x)
    (C : Nat) (hx : a.eval x = .pointer (some ⟨C, 0, none⟩)) (h : Hd) (hb : HdBlk h C w)
    (hh : wpList Tryz.prog ops Q rest (a.put o.dst h.val) w) : wpList Tryz.prog ops Q (o :: rest) a w :=
  BigFrame.wpList_want hgd fun _ hK => wp_load_row 26 x ho C hx 26 h.cellsA (0, 0) _ hb Tryz.underlying26 rfl infoHd (hK _ _ hh)
theorem slice_to (l : List UInt8) (u : Nat) (h2 : u ≤ l.length) (W : World) :
    (Instr.slice 9 (.string (str l)) none (some (.int .i64 (u : Int))) none).run Tryz.prog W = .ok (.string (str (l.take u))) W := by
  have e := str_extract l 0 u
  rw [List.drop_zero] at e
  rw [← e]
  go_simp
  rw [str_size]
  omega
theorem eqlZ : ∀ w : World, (binOp .eql 26 Hd.zero.val (Value.agg #[Value.int IntKind.i64 0, Value.int IntKind.i64 0, Value.int IntKind.i64 0, Value.int IntKind.i64 0, Value.int IntKind.i64 0, Value.int IntKind.i64 0, Value.int IntKind.i64 0, Value.bool false, Value.int IntKind.u64 0, Value.int IntKind.u64 0, Value.int IntKind.u32 0, Value.int IntKind.i64 0, Value.int IntKind.u8 0, Value.int IntKind.u8 0, Value.int IntKind.u8 0])).run Tryz.prog w = .ok (.bool true) w := fun w => eqlHd Hd.zero Hd.zero w

end Go.Proofs.YtcdhllajdpalaaaGreatDoor
