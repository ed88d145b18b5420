/-
  Steps of a drawn region that only reads and calls quietly, over a frame of which only a few slots are known.
-/
import Derived.Test.YtcdhllajdpalaaaGreatDoorFrA
import Derived.Test.YtcdhllajdpalaaaGreatDoorWords
import Derived.Test.YtcdhllajdpalaaaGreatDoorChecked
import Derived.StillTailTactics
import Derived.Laws.Tables
namespace Go.Proofs.YtcdhllajdpalaaaGreatDoor
open Go
open Go.ChangeShapes Go.WideShapes Go.ChangeAt Go.RowKit
set_option linter.unusedVariables false
namespace FrS
section
variable {P : Program} {ops : Array Oper} {Q : Act → Prop} {a : Act} {w : World} {rest : List Oper} {o : Oper}
theorem val {v : Value} {d : Nat} (hd : o.dst = some d) (hg : o.guard = none) (hr : (execOp a.eval o).run P w = .ok (.value v) w)
    (h : wpStill P ops w Q rest (a.put (some d) v)) : wpStill P ops w Q (o :: rest) a :=
  wpStill_step fun K hK => by
    rw [if_pos (Fr.open_ hg)]
    unfold Oper.still
    rw [hr]
    exact ⟨rfl, by rw [hd]; exact hK _ h⟩
theorem call {f : FuncId} {args : Array Value} {v : Value} {d : Nat} (hd : o.dst = some d) (hg : o.guard = none) (hr : (execOp a.eval o).run P w = .ok (.enter f args) w)
    (hc : Calls P f args w fun e w'' => e = .returned v ∧ w'' = w) (h : wpStill P ops w Q rest (a.put (some d) v)) : wpStill P ops w Q (o :: rest) a :=
  wpStill_step fun K hK => by
    rw [if_pos (Fr.open_ hg)]
    unfold Oper.still
    rw [hr]
    exact ⟨rfl, v, hc, by rw [hd]; exact hK _ h⟩
theorem move {x : Operand} {d : Nat} (hd : o.dst = some d) (hg : o.guard = none) (ho : o.op = .move x)
    (h : wpStill P ops w Q rest (a.put (some d) (a.eval x))) : wpStill P ops w Q (o :: rest) a :=
  val hd hg (by unfold execOp; rw [ho]; rfl) h
end
end FrS

/-! Of texts: the operations alone. -/
theorem ex_slice (ρ : Operand → Value) (w : World) (o : Oper) (x : Operand) (lo hi : Int) (s b : ByteArray) (ho : o.op = .slice 9 x (some (.const (.int .i64 lo))) (some (.const (.int .i64 hi))) none) (hx : ρ x = .string s) (h1 : ρ (.const (.int .i64 lo)) = .int .i64 lo) (h2 : ρ (.const (.int .i64 hi)) = .int .i64 hi)
    (hs : ∀ W, (Instr.slice 9 (.string s) (some (.int .i64 lo)) (some (.int .i64 hi)) none).run Tryz.prog W = .ok (.string b) W) : (execOp ρ o).run Tryz.prog w = .ok (.value (.string b)) w := by
  unfold execOp
  rw [ho]
  simp [hx, h1, h2, Instr.sliceAt, run_underlying Tryz.underlying9, hs]
theorem ex_index (ρ : Operand → Value) (w : World) (o : Oper) (x : Operand) (i : Int) (s : ByteArray) (b : Nat) (ho : o.op = .index 9 x (.const (.int .i64 i))) (hx : ρ x = .string s) (h1 : ρ (.const (.int .i64 i)) = .int .i64 i)
    (hs : ∀ W, (Instr.index 9 (.string s) (.int .i64 i)).run Tryz.prog W = .ok (.int .u8 b) W) : (execOp ρ o).run Tryz.prog w = .ok (.value (.int .u8 b)) w := by
  unfold execOp
  rw [ho]
  simp [hx, h1, hs]
theorem ex_num (ρ : Operand → Value) (w : World) (o : Oper) (x : Operand) (v : Value) (ats : Array TypeId) (ho : o.op = .call { callee := .value (.func 44), args := #[x], argTypes := ats }) (hx : ρ x = v) (hf : ρ (.func 44) = .func (.func 44) #[] #[]) :
    (execOp ρ o).run Tryz.prog w = .ok (.enter 44 #[v]) w := by
  unfold execOp
  rw [ho]
  simp [go_sem, resolve, hx, hf]
theorem ex_conv64 (ρ : Operand → Value) (w : World) (o : Oper) (x : Operand) (n : Nat) (hn : n < 9223372036854775808) (ho : o.op = .convert 22 3 x) (hx : ρ x = .int .u64 n) : (execOp ρ o).run Tryz.prog w = .ok (.value (.int .i64 n)) w := by
  have h := IntWalk.i64_in (n : Int) (by omega)
  unfold execOp
  rw [ho]
  simp [go_sem, hx, h]
theorem ex_conv8 (ρ : Operand → Value) (w : World) (o : Oper) (x : Operand) (n : Nat) (hn : n < 256) (ho : o.op = .convert 5 3 x) (hx : ρ x = .int .u8 n) : (execOp ρ o).run Tryz.prog w = .ok (.value (.int .i64 n)) w := by
  have h := IntWalk.i64_in (n : Int) (by omega)
  unfold execOp
  rw [ho]
  simp [go_sem, hx, h]
theorem ex_quo8 (ρ : Operand → Value) (w : World) (o : Oper) (x : Operand) (n c : Nat) (hn : n < 256) (hc : c = 2 ∨ c = 16) (ho : o.op = .binOp .quo 5 x (.const (.int .u8 c)) 5) (hx : ρ x = .int .u8 n) (h1 : ρ (.const (.int .u8 c)) = .int .u8 c) : (execOp ρ o).run Tryz.prog w = .ok (.value (.int .u8 (n / c : Nat))) w := by
  unfold execOp
  rw [ho]
  simp only [hx, h1]
  rcases hc with rfl | rfl
  all_goals
    simp [go_sem]
    try first | (rw [IntKind.wrap_u8]; omega) | (rw [Int.tmod_eq_emod_of_nonneg (by omega)]) | omega
theorem ex_rem8 (ρ : Operand → Value) (w : World) (o : Oper) (x : Operand) (n c : Nat) (hn : n < 256) (hc : c = 2 ∨ c = 16) (ho : o.op = .binOp .rem 5 x (.const (.int .u8 c)) 5) (hx : ρ x = .int .u8 n) (h1 : ρ (.const (.int .u8 c)) = .int .u8 c) : (execOp ρ o).run Tryz.prog w = .ok (.value (.int .u8 (n % c : Nat))) w := by
  unfold execOp
  rw [ho]
  simp only [hx, h1]
  rcases hc with rfl | rfl
  all_goals
    simp [go_sem]
    try first | (rw [IntKind.wrap_u8]; omega) | (rw [Int.tmod_eq_emod_of_nonneg (by omega)]) | omega
theorem ex_eq8 (ρ : Operand → Value) (w : World) (o : Oper) (x : Operand) (n : Nat) (ho : o.op = .binOp .eql 5 x (.const (.int .u8 1)) 5) (hx : ρ x = .int .u8 n) (h1 : ρ (.const (.int .u8 1)) = .int .u8 1) : (execOp ρ o).run Tryz.prog w = .ok (.value (.bool (decide (n = 1)))) w := by
  unfold execOp
  rw [ho]
  simp only [hx, h1]
  simp [go_sem]
  try (rw [Bool.eq_iff_iff]; simp; omega)
theorem st_num {ops : Array Oper} {Q : Act → Prop} {a : Act} {w : World} {rest : List Oper} {o1 o2 o3 o4 : Oper} {s : ByteArray} (ha : a.eval (.tmp 0) = .string s) (d : Nat) (lo hi : Int) (b : ByteArray) (n : Nat) (ats : Array TypeId) (hn : n < 9223372036854775808) (hs : ∀ W, (Instr.slice 9 (.string s) (some (.int .i64 lo)) (some (.int .i64 hi)) none).run Tryz.prog W = .ok (.string b) W) (hc : ∀ w, Calls Tryz.prog 44 #[.string b] w fun e w' => e = .returned (.int .u64 n) ∧ w' = w) (h0 : 0 < d) (hz : d + 3 < a.tmps.size)
    (g1 : o1.guard = none) (g2 : o2.guard = none) (g3 : o3.guard = none) (g4 : o4.guard = none)
    (d1 : o1.dst = some (d)) (d2 : o2.dst = some (d + 1)) (d3 : o3.dst = some (d + 2)) (d4 : o4.dst = some (d + 3))
    (h1 : o1.op = .move (.tmp 0)) (h2 : o2.op = .slice 9 (.tmp d) (some (.const (.int .i64 lo))) (some (.const (.int .i64 hi))) none) (h3 : o3.op = .call { callee := .value (.func 44), args := #[.tmp (d + 1)], argTypes := ats }) (h4 : o4.op = .convert 22 3 (.tmp (d + 2)))
    (h : ∀ a', Fr.Kept d a a' → a'.eval (.tmp (d + 3)) = .int .i64 n → wpStill Tryz.prog ops w Q rest a') : wpStill Tryz.prog ops w Q (o1 :: o2 :: o3 :: o4 :: rest) a := by
  have k0 := Fr.Kept.refl d a
  refine FrS.move d1 g1 h1 ?_
  rw [ha]
  have k1 := k0.put d (.string s) (Nat.le_refl _)
  have e1 := Fr.put_same (a := a) (.string s) (show d < a.tmps.size by omega)
  generalize a.put (some d) (.string s) = a1 at *
  refine FrS.val d2 g2 (ex_slice _ w _ _ lo hi s b h2 e1 rfl rfl hs) ?_
  have k2 := k1.put (d + 1) (.string b) (by omega)
  have e2 := Fr.put_same (a := a1) (.string b) (show d + 1 < a1.tmps.size by rw [k1.size]; omega)
  generalize a1.put (some (d + 1)) (.string b) = a2 at *
  refine FrS.call d3 g3 (ex_num _ w _ _ _ ats h3 e2 rfl) (hc w) ?_
  have k3 := k2.put (d + 2) (.int .u64 n) (by omega)
  have e3 := Fr.put_same (a := a2) (.int .u64 n) (show d + 2 < a2.tmps.size by rw [k2.size]; omega)
  generalize a2.put (some (d + 2)) (.int .u64 n) = a3 at *
  refine FrS.val d4 g4 (ex_conv64 _ w _ _ n hn h4 e3) ?_
  exact h _ (k3.put (d + 3) (.int .i64 n) (by omega)) (Fr.put_same _ (by rw [k3.size]; omega))
theorem st_byte {ops : Array Oper} {Q : Act → Prop} {a : Act} {w : World} {rest : List Oper} {o1 o2 o3 : Oper} {s : ByteArray} (ha : a.eval (.tmp 0) = .string s) (d : Nat) (k : Int) (b : Nat) (hb : b < 256) (hs : ∀ W, (Instr.index 9 (.string s) (.int .i64 k)).run Tryz.prog W = .ok (.int .u8 b) W) (h0 : 0 < d) (hz : d + 2 < a.tmps.size)
    (g1 : o1.guard = none) (g2 : o2.guard = none) (g3 : o3.guard = none)
    (d1 : o1.dst = some (d)) (d2 : o2.dst = some (d + 1)) (d3 : o3.dst = some (d + 2))
    (h1 : o1.op = .move (.tmp 0)) (h2 : o2.op = .index 9 (.tmp d) (.const (.int .i64 k))) (h3 : o3.op = .convert 5 3 (.tmp (d + 1)))
    (h : ∀ a', Fr.Kept d a a' → a'.eval (.tmp (d + 2)) = .int .i64 b → wpStill Tryz.prog ops w Q rest a') : wpStill Tryz.prog ops w Q (o1 :: o2 :: o3 :: rest) a := by
  have k0 := Fr.Kept.refl d a
  refine FrS.move d1 g1 h1 ?_
  rw [ha]
  have k1 := k0.put d (.string s) (Nat.le_refl _)
  have e1 := Fr.put_same (a := a) (.string s) (show d < a.tmps.size by omega)
  generalize a.put (some d) (.string s) = a1 at *
  refine FrS.val d2 g2 (ex_index _ w _ _ k s b h2 e1 rfl hs) ?_
  have k2 := k1.put (d + 1) (.int .u8 b) (by omega)
  have e2 := Fr.put_same (a := a1) (.int .u8 b) (show d + 1 < a1.tmps.size by rw [k1.size]; omega)
  generalize a1.put (some (d + 1)) (.int .u8 b) = a2 at *
  refine FrS.val d3 g3 (ex_conv8 _ w _ _ b hb h3 e2) ?_
  exact h _ (k2.put (d + 2) (.int .i64 b) (by omega)) (Fr.put_same _ (by rw [k2.size]; omega))
theorem st_quo {ops : Array Oper} {Q : Act → Prop} {a : Act} {w : World} {rest : List Oper} {o1 o2 o3 o4 : Oper} {s : ByteArray} (ha : a.eval (.tmp 0) = .string s) (d : Nat) (k : Int) (b : Nat) (hb : b < 256) (hs : ∀ W, (Instr.index 9 (.string s) (.int .i64 k)).run Tryz.prog W = .ok (.int .u8 b) W) (h0 : 0 < d) (hz : d + 3 < a.tmps.size)
    (g1 : o1.guard = none) (g2 : o2.guard = none) (g3 : o3.guard = none) (g4 : o4.guard = none)
    (d1 : o1.dst = some (d)) (d2 : o2.dst = some (d + 1)) (d3 : o3.dst = some (d + 2)) (d4 : o4.dst = some (d + 3))
    (h1 : o1.op = .move (.tmp 0)) (h2 : o2.op = .index 9 (.tmp d) (.const (.int .i64 k))) (h3 : o3.op = .binOp .quo 5 (.tmp (d + 1)) (.const (.int .u8 16)) 5) (h4 : o4.op = .convert 5 3 (.tmp (d + 2)))
    (h : ∀ a', Fr.Kept d a a' → a'.eval (.tmp (d + 3)) = .int .i64 (b / 16 : Nat) → wpStill Tryz.prog ops w Q rest a') : wpStill Tryz.prog ops w Q (o1 :: o2 :: o3 :: o4 :: rest) a := by
  have k0 := Fr.Kept.refl d a
  refine FrS.move d1 g1 h1 ?_
  rw [ha]
  have k1 := k0.put d (.string s) (Nat.le_refl _)
  have e1 := Fr.put_same (a := a) (.string s) (show d < a.tmps.size by omega)
  generalize a.put (some d) (.string s) = a1 at *
  refine FrS.val d2 g2 (ex_index _ w _ _ k s b h2 e1 rfl hs) ?_
  have k2 := k1.put (d + 1) (.int .u8 b) (by omega)
  have e2 := Fr.put_same (a := a1) (.int .u8 b) (show d + 1 < a1.tmps.size by rw [k1.size]; omega)
  generalize a1.put (some (d + 1)) (.int .u8 b) = a2 at *
  refine FrS.val d3 g3 (ex_quo8 _ w _ _ b 16 hb (.inr rfl) h3 e2 rfl) ?_
  have k3 := k2.put (d + 2) (.int .u8 (b / 16 : Nat)) (by omega)
  have e3 := Fr.put_same (a := a2) (.int .u8 (b / 16 : Nat)) (show d + 2 < a2.tmps.size by rw [k2.size]; omega)
  generalize a2.put (some (d + 2)) (.int .u8 (b / 16 : Nat)) = a3 at *
  refine FrS.val d4 g4 (ex_conv8 _ w _ _ (b / 16) (by omega) h4 e3) ?_
  exact h _ (k3.put (d + 3) (.int .i64 (b / 16 : Nat)) (by omega)) (Fr.put_same _ (by rw [k3.size]; omega))
theorem st_rem {ops : Array Oper} {Q : Act → Prop} {a : Act} {w : World} {rest : List Oper} {o1 o2 o3 o4 : Oper} {s : ByteArray} (ha : a.eval (.tmp 0) = .string s) (d : Nat) (k : Int) (b : Nat) (hb : b < 256) (hs : ∀ W, (Instr.index 9 (.string s) (.int .i64 k)).run Tryz.prog W = .ok (.int .u8 b) W) (h0 : 0 < d) (hz : d + 3 < a.tmps.size)
    (g1 : o1.guard = none) (g2 : o2.guard = none) (g3 : o3.guard = none) (g4 : o4.guard = none)
    (d1 : o1.dst = some (d)) (d2 : o2.dst = some (d + 1)) (d3 : o3.dst = some (d + 2)) (d4 : o4.dst = some (d + 3))
    (h1 : o1.op = .move (.tmp 0)) (h2 : o2.op = .index 9 (.tmp d) (.const (.int .i64 k))) (h3 : o3.op = .binOp .rem 5 (.tmp (d + 1)) (.const (.int .u8 16)) 5) (h4 : o4.op = .convert 5 3 (.tmp (d + 2)))
    (h : ∀ a', Fr.Kept d a a' → a'.eval (.tmp (d + 3)) = .int .i64 (b % 16 : Nat) → wpStill Tryz.prog ops w Q rest a') : wpStill Tryz.prog ops w Q (o1 :: o2 :: o3 :: o4 :: rest) a := by
  have k0 := Fr.Kept.refl d a
  refine FrS.move d1 g1 h1 ?_
  rw [ha]
  have k1 := k0.put d (.string s) (Nat.le_refl _)
  have e1 := Fr.put_same (a := a) (.string s) (show d < a.tmps.size by omega)
  generalize a.put (some d) (.string s) = a1 at *
  refine FrS.val d2 g2 (ex_index _ w _ _ k s b h2 e1 rfl hs) ?_
  have k2 := k1.put (d + 1) (.int .u8 b) (by omega)
  have e2 := Fr.put_same (a := a1) (.int .u8 b) (show d + 1 < a1.tmps.size by rw [k1.size]; omega)
  generalize a1.put (some (d + 1)) (.int .u8 b) = a2 at *
  refine FrS.val d3 g3 (ex_rem8 _ w _ _ b 16 hb (.inr rfl) h3 e2 rfl) ?_
  have k3 := k2.put (d + 2) (.int .u8 (b % 16 : Nat)) (by omega)
  have e3 := Fr.put_same (a := a2) (.int .u8 (b % 16 : Nat)) (show d + 2 < a2.tmps.size by rw [k2.size]; omega)
  generalize a2.put (some (d + 2)) (.int .u8 (b % 16 : Nat)) = a3 at *
  refine FrS.val d4 g4 (ex_conv8 _ w _ _ (b % 16) (by omega) h4 e3) ?_
  exact h _ (k3.put (d + 3) (.int .i64 (b % 16 : Nat)) (by omega)) (Fr.put_same _ (by rw [k3.size]; omega))
theorem st_type {ops : Array Oper} {Q : Act → Prop} {a : Act} {w : World} {rest : List Oper} {o1 o2 o3 o4 o5 : Oper} {s : ByteArray} (ha : a.eval (.tmp 0) = .string s) (d : Nat) (k : Int) (b : Nat) (hb : b < 256) (hs : ∀ W, (Instr.index 9 (.string s) (.int .i64 k)).run Tryz.prog W = .ok (.int .u8 b) W) (h0 : 0 < d) (hz : d + 4 < a.tmps.size)
    (g1 : o1.guard = none) (g2 : o2.guard = none) (g3 : o3.guard = none) (g4 : o4.guard = none) (g5 : o5.guard = none)
    (d1 : o1.dst = some (d)) (d2 : o2.dst = some (d + 1)) (d3 : o3.dst = some (d + 2)) (d4 : o4.dst = some (d + 3)) (d5 : o5.dst = some (d + 4))
    (h1 : o1.op = .move (.tmp 0)) (h2 : o2.op = .index 9 (.tmp d) (.const (.int .i64 k))) (h3 : o3.op = .binOp .quo 5 (.tmp (d + 1)) (.const (.int .u8 2)) 5) (h4 : o4.op = .binOp .rem 5 (.tmp (d + 2)) (.const (.int .u8 16)) 5) (h5 : o5.op = .convert 5 3 (.tmp (d + 3)))
    (h : ∀ a', Fr.Kept d a a' → a'.eval (.tmp (d + 4)) = .int .i64 (b / 2 % 16 : Nat) → wpStill Tryz.prog ops w Q rest a') : wpStill Tryz.prog ops w Q (o1 :: o2 :: o3 :: o4 :: o5 :: rest) a := by
  have k0 := Fr.Kept.refl d a
  refine FrS.move d1 g1 h1 ?_
  rw [ha]
  have k1 := k0.put d (.string s) (Nat.le_refl _)
  have e1 := Fr.put_same (a := a) (.string s) (show d < a.tmps.size by omega)
  generalize a.put (some d) (.string s) = a1 at *
  refine FrS.val d2 g2 (ex_index _ w _ _ k s b h2 e1 rfl hs) ?_
  have k2 := k1.put (d + 1) (.int .u8 b) (by omega)
  have e2 := Fr.put_same (a := a1) (.int .u8 b) (show d + 1 < a1.tmps.size by rw [k1.size]; omega)
  generalize a1.put (some (d + 1)) (.int .u8 b) = a2 at *
  refine FrS.val d3 g3 (ex_quo8 _ w _ _ b 2 hb (.inl rfl) h3 e2 rfl) ?_
  have k3 := k2.put (d + 2) (.int .u8 (b / 2 : Nat)) (by omega)
  have e3 := Fr.put_same (a := a2) (.int .u8 (b / 2 : Nat)) (show d + 2 < a2.tmps.size by rw [k2.size]; omega)
  generalize a2.put (some (d + 2)) (.int .u8 (b / 2 : Nat)) = a3 at *
  refine FrS.val d4 g4 (ex_rem8 _ w _ _ (b / 2) 16 (by omega) (.inr rfl) h4 e3 rfl) ?_
  have k4 := k3.put (d + 3) (.int .u8 (b / 2 % 16 : Nat)) (by omega)
  have e4 := Fr.put_same (a := a3) (.int .u8 (b / 2 % 16 : Nat)) (show d + 3 < a3.tmps.size by rw [k3.size]; omega)
  generalize a3.put (some (d + 3)) (.int .u8 (b / 2 % 16 : Nat)) = a4 at *
  refine FrS.val d5 g5 (ex_conv8 _ w _ _ (b / 2 % 16) (by omega) h5 e4) ?_
  exact h _ (k4.put (d + 4) (.int .i64 (b / 2 % 16 : Nat)) (by omega)) (Fr.put_same _ (by rw [k4.size]; omega))
theorem st_x {ops : Array Oper} {Q : Act → Prop} {a : Act} {w : World} {rest : List Oper} {o1 o2 o3 o4 : Oper} {s : ByteArray} (ha : a.eval (.tmp 0) = .string s) (d : Nat) (k : Int) (b : Nat) (hb : b < 256) (hs : ∀ W, (Instr.index 9 (.string s) (.int .i64 k)).run Tryz.prog W = .ok (.int .u8 b) W) (h0 : 0 < d) (hz : d + 3 < a.tmps.size)
    (g1 : o1.guard = none) (g2 : o2.guard = none) (g3 : o3.guard = none) (g4 : o4.guard = none)
    (d1 : o1.dst = some (d)) (d2 : o2.dst = some (d + 1)) (d3 : o3.dst = some (d + 2)) (d4 : o4.dst = some (d + 3))
    (h1 : o1.op = .move (.tmp 0)) (h2 : o2.op = .index 9 (.tmp d) (.const (.int .i64 k))) (h3 : o3.op = .binOp .rem 5 (.tmp (d + 1)) (.const (.int .u8 2)) 5) (h4 : o4.op = .binOp .eql 5 (.tmp (d + 2)) (.const (.int .u8 1)) 5)
    (h : ∀ a', Fr.Kept d a a' → a'.eval (.tmp (d + 3)) = .bool (decide (b % 2 = 1)) → wpStill Tryz.prog ops w Q rest a') : wpStill Tryz.prog ops w Q (o1 :: o2 :: o3 :: o4 :: rest) a := by
  have k0 := Fr.Kept.refl d a
  refine FrS.move d1 g1 h1 ?_
  rw [ha]
  have k1 := k0.put d (.string s) (Nat.le_refl _)
  have e1 := Fr.put_same (a := a) (.string s) (show d < a.tmps.size by omega)
  generalize a.put (some d) (.string s) = a1 at *
  refine FrS.val d2 g2 (ex_index _ w _ _ k s b h2 e1 rfl hs) ?_
  have k2 := k1.put (d + 1) (.int .u8 b) (by omega)
  have e2 := Fr.put_same (a := a1) (.int .u8 b) (show d + 1 < a1.tmps.size by rw [k1.size]; omega)
  generalize a1.put (some (d + 1)) (.int .u8 b) = a2 at *
  refine FrS.val d3 g3 (ex_rem8 _ w _ _ b 2 hb (.inl rfl) h3 e2 rfl) ?_
  have k3 := k2.put (d + 2) (.int .u8 (b % 2 : Nat)) (by omega)
  have e3 := Fr.put_same (a := a2) (.int .u8 (b % 2 : Nat)) (show d + 2 < a2.tmps.size by rw [k2.size]; omega)
  generalize a2.put (some (d + 2)) (.int .u8 (b % 2 : Nat)) = a3 at *
  refine FrS.val d4 g4 (ex_eq8 _ w _ _ (b % 2) h4 e3 rfl) ?_
  exact h _ (k3.put (d + 3) (.bool (decide (b % 2 = 1))) (by omega)) (Fr.put_same _ (by rw [k3.size]; omega))
theorem built_hd (v0 v1 v2 v3 v4 v5 v6 : Int) (v7 : Bool) (w : World) : (Instr.build 26 #[(0, .int .i64 v0), (1, .int .i64 v1), (2, .int .i64 v2), (3, .int .i64 v3), (4, .int .i64 v4), (5, .int .i64 v5), (6, .int .i64 v6), (7, .bool v7)]).run Tryz.prog w = .ok (.agg #[.int .i64 v0, .int .i64 v1, .int .i64 v2, .int .i64 v3, .int .i64 v4, .int .i64 v5, .int .i64 v6, .bool v7, .int .u64 0, .int .u64 0, .int .u32 0, .int .i64 0, .int .u8 0, .int .u8 0, .int .u8 0]) w :=
  run_build w _ _ _ (by kernel_rfl)
theorem ex_build8 (ρ : Operand → Value) (w : World) (o : Oper) (x0 x1 x2 x3 x4 x5 x6 x7 : Operand) (v0 v1 v2 v3 v4 v5 v6 : Int) (v7 : Bool) (ho : o.op = .build 26 #[(0, x0), (1, x1), (2, x2), (3, x3), (4, x4), (5, x5), (6, x6), (7, x7)])
    (h0 : ρ x0 = .int .i64 v0) (h1 : ρ x1 = .int .i64 v1) (h2 : ρ x2 = .int .i64 v2) (h3 : ρ x3 = .int .i64 v3) (h4 : ρ x4 = .int .i64 v4) (h5 : ρ x5 = .int .i64 v5) (h6 : ρ x6 = .int .i64 v6) (h7 : ρ x7 = .bool v7) :
    (execOp ρ o).run Tryz.prog w = .ok (.value (.agg #[.int .i64 v0, .int .i64 v1, .int .i64 v2, .int .i64 v3, .int .i64 v4, .int .i64 v5, .int .i64 v6, .bool v7, .int .u64 0, .int .u64 0, .int .u32 0, .int .i64 0, .int .u8 0, .int .u8 0, .int .u8 0])) w := by
  unfold execOp
  simp only [ho, List.map_toArray, List.map_cons, List.map_nil, h0, h1, h2, h3, h4, h5, h6, h7, Sem.run_bind, built_hd, Result.andThen_ok]
  rfl
end Go.Proofs.YtcdhllajdpalaaaGreatDoor
