/-
  Operations of regions that draw their order: heads, rows of bytes, texts.
-/
import Derived.Test.YtjbcjcfmjagbkaaGreatDoorRegI
import Derived.Test.YtjbcjcfmjagbkaaGreatDoorLawSum3
import Derived.Test.YtjbcjcfmjagbkaaGreatDoorMayH
namespace Go.Proofs.YtjbcjcfmjagbkaaGreatDoor
open Go.ChangeShapes Go.WideShapes Go.ChangeAt Go.RowKit
set_option linter.unusedVariables false
set_option linter.unusedSimpArgs false
namespace Rg
theorem ex_string (ρ : Operand → Value) (W : World) (o : Oper) (x : Operand) (s : ByteArray) (v : Value) (src dst : TypeId) (w' : World) (ho : o.op = .convert src dst x) (hx : ρ x = .string s)
    (hr : (convert src dst (.string s)).run Tryz.prog W = .ok v w') : (execOp ρ o).run Tryz.prog W = .ok (.value v) w' := by
  unfold execOp
  simp only [ho, hx, Sem.run_bind, hr, Result.andThen_ok]
  rfl
theorem ex_slice (ρ : Operand → Value) (W : World) (o : Oper) (x : Operand) (p : Option Addr) (n c : Nat) (v : Value) (src dst : TypeId) (w' : World) (ho : o.op = .convert src dst x) (hx : ρ x = .slice p n c)
    (hr : (convert src dst (.slice p n c)).run Tryz.prog W = .ok v w') : (execOp ρ o).run Tryz.prog W = .ok (.value v) w' := by
  unfold execOp
  simp only [ho, hx, Sem.run_bind, hr, Result.andThen_ok]
  rfl
theorem ex_make (ρ : Operand → Value) (W : World) (o : Oper) (x y : Operand) (t : TypeId) (m n : Int) (v : Value) (w' : World) (ho : o.op = .makeSlice t x y) (hx : ρ x = .int .i64 m) (hy : ρ y = .int .i64 n)
    (hr : (Instr.makeSlice t (.int .i64 m) (.int .i64 n)).run Tryz.prog W = .ok v w') : (execOp ρ o).run Tryz.prog W = .ok (.value v) w' := by
  unfold execOp
  simp only [ho, hx, hy, Sem.run_bind, hr, Result.andThen_ok]
  rfl
theorem ex_bin (ρ : Operand → Value) (W : World) (o : Oper) (b : BinOp) (t u : TypeId) (x y : Operand) (p q v : Value) (ho : o.op = .binOp b t x y u) (hx : ρ x = p) (hy : ρ y = q) (hb : b = .add)
    (hr : (binOp b t p q).run Tryz.prog W = .ok v W) : (execOp ρ o).run Tryz.prog W = .ok (.value v) W := by
  subst hb
  unfold execOp
  simp [go_sem, ho, hx, hy, hr, eqGuard]
theorem ex_assign (ρ : Operand → Value) (W : World) (o : Oper) (x : Operand) (v : Value) (ho : o.op = .assign x) (hx : ρ x = v) : (execOp ρ o).run Tryz.prog W = .ok (.value v) W := by
  unfold execOp
  simp only [ho, hx]
  rfl
/-- Noughts. -/
def ZRow (w : World) (H n : Nat) : Prop := H < w.heap.size ∧ ∀ j, j < n → w.cell? ⟨H, j, none⟩ = some (.int .u8 0)
theorem ZRow.below {w w' : World} {H n : Nat} (h : ZRow w H n) (hb : Below w.heap.size w w') : ZRow w' H n := ⟨Nat.lt_of_lt_of_le h.1 hb.size, fun j hj => by rw [hb.cell (p := ⟨H, j, none⟩) h.1]; exact h.2 j hj⟩
theorem ZRow.conv {w : World} {H n : Nat} (h : ZRow w H n) : (convert 36 9 (.slice (some ⟨H, 0, none⟩) n n)).run Tryz.prog w = .ok (.string (str (List.replicate n 0))) w := by
  have hlen : (List.replicate n (0 : UInt8)).length = n := List.length_replicate
  have hc := run_convert_bytes_back (P := Tryz.prog) w 36 9 5 ⟨H, 0, none⟩ n (List.replicate n 0) Tryz.underlying36 Tryz.underlying5 Tryz.underlying9 (fun j hj => by
    have hj' : j < n := by rwa [hlen] at hj
    rw [show (⟨H, 0, none⟩ : Addr).add j = ⟨H, j, none⟩ from by simp [Addr.add]; exact fun h => h.symm, h.2 j hj']
    simp)
  rw [hlen] at hc
  exact hc
theorem make_zeros (w : World) (n : Nat) (hn : n ≤ 1000000) : ∃ w', (Instr.makeSlice 36 (.int .i64 (n : Int)) (.int .i64 (n : Int))).run Tryz.prog w = .ok (.slice (some ⟨w.heap.size, 0, none⟩) n n) w' ∧ Below w.heap.size w w' ∧ (0 < n → ZRow w' w.heap.size n) := by
  obtain ⟨i0, hi, hz0, hz1, hz2⟩ := info_parts infoU8
  obtain ⟨w', hrun, hrow, hg⟩ := run_make_full (P := Tryz.prog) w w.heap.size 36 5 i0 (.int .u8 0) 1 Tryz.underlying36 hi hz0 hz1 .i64 .i64 n (by rw [hz2]; omega) (by unfold maxLen; omega) (Nat.le_refl _)
  have h2 : ∀ j, j < n → w'.cell? ⟨w.heap.size, j, none⟩ = some (.int .u8 0) := fun j hj => by
    rw [hrow.cellAt j (by omega)]
    have e1 : j % 1 = 0 := Nat.mod_one j
    simp [madeCells, Value.cells, hj, e1]
  refine ⟨w', hrun, ⟨hg.os, hg.tape, hg.output, hg.size, fun k hk => hg.block k hk (by simp)⟩, fun hn0 => ⟨?_, h2⟩⟩
  have hc := h2 0 hn0
  rcases Nat.lt_or_ge w.heap.size w'.heap.size with h | h
  · exact h
  · simp [World.cell?, Array.getElem?_eq_none h] at hc
end Rg
end Go.Proofs.YtjbcjcfmjagbkaaGreatDoor
