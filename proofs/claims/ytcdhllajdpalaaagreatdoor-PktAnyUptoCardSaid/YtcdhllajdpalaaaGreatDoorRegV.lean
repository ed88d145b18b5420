/-
  Regions that draw their order and only give values; the world may grow.
-/
import Derived.Test.YtcdhllajdpalaaaGreatDoorRegO
import Derived.Test.YtcdhllajdpalaaaGreatDoorFrS
import Derived.Test.YtcdhllajdpalaaaGreatDoorMayH
namespace Go.Proofs.YtcdhllajdpalaaaGreatDoor
open Go.ChangeShapes Go.WideShapes Go.ChangeAt Go.RowKit
set_option linter.unusedVariables false
set_option linter.unusedSimpArgs false

/-- A region that draws its order; behind it the slots of D hold what the relation says of them. -/
theorem Rg.regionV {P : Program} {ops : Array Oper} {Q : Exit → Act → World → Prop} {id : Nat} {a0 : Act} {w : World} (hm : P.follows .mixedOrders = true) (D : List Nat) (I : (Nat → Bool) → (Nat → Value) → World → Prop)
    (hok : Rg.ok D a0.tmps.size ops = true) (hI : ∀ V, I (fun _ => false) V w.drew)
    (steps : Rg.StepsJ P Q D I a0 0 ops.toList)
    (fin : ∀ w' f L V, (∀ i, i < ops.size → L i = true) → (∀ j, V j = f (D.getD j 0)) → I L V w' → Q .normal (Rg.puts D f a0) w') :
    (Code.region id ops true).wp P Q a0 w :=
  Rg.regionJ hm D I hok hI steps (fun a w' L V h1 h2 h3 h4 h5 hi => by
    rw [Rg.puts_eq h1 h2 h3]
    exact fin w' _ L V h4 h5 hi)
theorem ex_move (ρ : Operand → Value) (W : World) (o : Oper) (x : Operand) (v : Value) (ho : o.op = .move x) (hx : ρ x = v) : (execOp ρ o).run Tryz.prog W = .ok (.value v) W := by
  unfold execOp
  simp only [ho, hx]
  rfl
theorem callJ {Q : Exit → Act → World → Prop} {o : Oper} {a : Act} {w : World} {K' : Act → World → Prop} {f : FuncId} {args : Array Value} {X : Value → World → Prop}
    (hk : ∀ v w', X v w' → K' (a.put o.dst v) w') (hr : (execOp a.eval o).run Tryz.prog w = .ok (.enter f args) w) (hc : Calls Tryz.prog f args w fun e w' => ∃ v, e = .returned v ∧ X v w') : Oper.wp Tryz.prog o a w K' Q := by
  unfold Oper.wp; rw [hr]
  refine hc.mono ?_
  rintro e w' ⟨v, rfl, hx⟩
  exact hk v w' hx

/-- The operations done hold c's values; the last one, n, not yet done, holds what it held; below B nothing has turned. -/
structure VI (c : List Value) (n : Nat) (v0 : Value) (B : Nat) (w0 : World) (L : Nat → Bool) (V : Nat → Value) (W : World) : Prop where
  bel : Below B w0 W
  big : B ≤ W.heap.size
  vals : ∀ i, L i = true → V i = c.getD i undef
  old : L 0 = false → V n = v0
  ord : L n = true → L 0 = true
section
variable {c : List Value} {n : Nat} {v0 : Value} {B : Nat} {w0 : World} {L : Nat → Bool} {V : Nat → Value} {W : World}
theorem VI.start (hb : Below B w0 W) (hB : B ≤ W.heap.size) (V : Nat → Value) (hv : V n = v0) : VI c n v0 B w0 (fun _ => false) V W.drew :=
  ⟨hb.trans ((bel_drewN W 1).mono hB), hB, fun _ h => (by cases h), fun _ => hv, fun h => (by cases h)⟩
theorem VI.call (h : VI c n v0 B w0 L V W) (i : Nat) {W' : World} (hb : Below W.heap.size W W') (V' : Nat → Value) {m : Nat} (hV : ∀ j, L j = true ∨ j < m ∧ j ≠ i → V' j = V j) (hm : n < m) (hne : i = n → L 0 = true) (hv : V' i = c.getD i undef) : VI c n v0 B w0 (fun j => j == i || L j) V' W' := by
  refine ⟨h.bel.trans (hb.mono h.big), Nat.le_trans h.big hb.size, fun j hl => ?_, fun hl => ?_, fun hl => ?_⟩
  · by_cases ej : j = i
    · subst ej; exact hv
    · have : (j == i) = false := by rw [beq_eq_false_iff_ne]; exact ej
      simp only [this, Bool.false_or] at hl
      rw [hV j (.inl hl)]; exact h.vals j hl
  · simp only [Bool.or_eq_false_iff, beq_eq_false_iff_ne] at hl
    by_cases e : n = i
    · have := hne e.symm; rw [hl.2] at this; cases this
    · rw [hV n (.inr ⟨hm, e⟩)]
      exact h.old hl.2
  · show (0 == i || L 0) = true
    by_cases e : n = i
    · rw [hne e.symm, Bool.or_true]
    · have : (n == i) = false := by rw [beq_eq_false_iff_ne]; exact e
      simp only [this, Bool.false_or] at hl
      rw [h.ord hl, Bool.or_true]
theorem VI.quiet (h : VI c n v0 B w0 L V W) (i : Nat) (V' : Nat → Value) {m : Nat} (hV : ∀ j, L j = true ∨ j < m ∧ j ≠ i → V' j = V j) (hm : n < m) (hne : i = n → L 0 = true) (hv : V' i = c.getD i undef) : VI c n v0 B w0 (fun j => j == i || L j) V' W :=
  h.call i (Below.refl _ _) V' hV hm hne hv
end
theorem HdBlk.cell {h : Hd} {B : Nat} {w : World} (a : HdBlk h B w) (i : Nat) (v : Value) (e : h.cellsA[i]? = some v) : w.cell? ⟨B, i, none⟩ = some v := by
  rw [cell_of_row w B i _ _ _ a]; exact e
theorem ex_setV (ρ : Operand → Value) (W : World) (o : Oper) (x : Operand) (v : Value) (ho : o.op = .assign x) (hx : ρ x = v) : (execOp ρ o).run Tryz.prog W = .ok (.value v) W := by
  unfold execOp
  simp only [ho, hx]
  rfl
theorem ex_convU (ρ : Operand → Value) (W : World) (o : Oper) (x : Operand) (n : Nat) (hn : n < 9223372036854775808) (ho : o.op = .convert 3 22 x) (hx : ρ x = .int .i64 n) : (execOp ρ o).run Tryz.prog W = .ok (.value (.int .u64 n)) W := by
  have h := IntWalk.u64_in (n : Int) (by omega)
  unfold execOp
  rw [ho]
  simp [go_sem, hx, h]
theorem ex_bytes (ρ : Operand → Value) (W : World) (o : Oper) (x y : Operand) (v u : Value) (ats : Array TypeId) (ho : o.op = .call { callee := .value (.func 49), args := #[x, y], argTypes := ats }) (hx : ρ x = v) (hy : ρ y = u) (hf : ρ (.func 49) = .func (.func 49) #[] #[]) :
    (execOp ρ o).run Tryz.prog W = .ok (.enter 49 #[v, u]) W := by
  unfold execOp
  rw [ho]
  simp [go_sem, resolve, hx, hy, hf]
theorem ex_addS (ρ : Operand → Value) (W : World) (o : Oper) (x y : Operand) (a b : List UInt8) (ha : a.length ≤ 1000000) (hb : b.length ≤ 1000000) (ho : o.op = .binOp .add 9 x y 9) (hx : ρ x = .string (str a)) (hy : ρ y = .string (str b)) :
    (execOp ρ o).run Tryz.prog W = .ok (.value (.string (str (a ++ b)))) W := by
  have e : ¬ 9223372036854775807 < (str a).size + (str b).size := by rw [str_size, str_size]; omega
  have e2 := str_append a b
  unfold execOp
  simp [go_sem, ho, hx, hy, e, e2, eqGuard]
theorem ex_addI (ρ : Operand → Value) (W : World) (o : Oper) (x y : Operand) (a b : Nat) (hb : a + b < 9223372036854775808) (ho : o.op = .binOp .add 3 x y 3) (hx : ρ x = .int .i64 a) (hy : ρ y = .int .i64 b) :
    (execOp ρ o).run Tryz.prog W = .ok (.value (.int .i64 ((a + b : Nat) : Int))) W := by
  have h := IntWalk.i64_in ((a : Int) + (b : Int)) (by omega)
  unfold execOp
  simp [go_sem, ho, hx, hy, h, eqGuard]
theorem ex_mulI (ρ : Operand → Value) (W : World) (o : Oper) (x y : Operand) (a b : Nat) (hb : a * b < 9223372036854775808) (ho : o.op = .binOp .mul 3 x y 3) (hx : ρ x = .int .i64 a) (hy : ρ y = .int .i64 b) :
    (execOp ρ o).run Tryz.prog W = .ok (.value (.int .i64 ((a * b : Nat) : Int))) W := by
  have hp : (0 : Int) ≤ (a : Int) * b := Int.mul_nonneg (by omega) (by omega)
  have hq : (a : Int) * b < 9223372036854775808 := by rw [← Int.natCast_mul]; omega
  have h := IntWalk.i64_in ((a : Int) * (b : Int)) (by omega)
  unfold execOp
  simp [go_sem, ho, hx, hy, h, eqGuard]
theorem ex_quo6 (ρ : Operand → Value) (W : World) (o : Oper) (x : Operand) (a b : Nat) (hb : a = 6 ∧ b = 1 ∨ a = 3 ∧ b = 0) (ho : o.op = .binOp .quo 3 x (.const (.int .i64 6)) 3) (hx : ρ x = .int .i64 a) (hy : ρ (.const (.int .i64 6)) = .int .i64 6) :
    (execOp ρ o).run Tryz.prog W = .ok (.value (.int .i64 b)) W := by
  unfold execOp
  rcases hb with ⟨rfl, rfl⟩ | ⟨rfl, rfl⟩
  all_goals
    simp [go_sem, ho, hx, hy, eqGuard]
    exact IntWalk.i64_in _ (by decide)
theorem ex_info (ρ : Operand → Value) (W : World) (o : Oper) (x : Operand) (B : Nat) (ho : o.op = .slice 24 x none none none) (hx : ρ x = .pointer (some ⟨B, 12, none⟩)) :
    (execOp ρ o).run Tryz.prog W = .ok (.value (.slice (some ⟨B, 12, none⟩) 3 3)) W := by
  unfold execOp
  simp [go_sem, ho, hx, Instr.sliceAt]
theorem conv_info {h : Hd} {B : Nat} {W : World} (hb : HdBlk h B W) (h4 : h.i0 < 256) (h5 : h.i1 < 256) (h6 : h.i2 < 256) : (convert 36 9 (.slice (some ⟨B, 12, none⟩) 3 3)).run Tryz.prog W = .ok (.string (str h.infoBytes)) W := by
  have hl : h.infoBytes.length = 3 := rfl
  have hc := run_convert_bytes_back (P := Tryz.prog) W 36 9 5 ⟨B, 12, none⟩ 3 h.infoBytes Tryz.underlying36 Tryz.underlying5 Tryz.underlying9 (fun j hj => by
    rw [hl] at hj
    have c12 : W.cell? ⟨B, 12, none⟩ = some (.int .u8 h.i0) := hb.cell 12 _ rfl
    have c13 : W.cell? ⟨B, 13, none⟩ = some (.int .u8 h.i1) := hb.cell 13 _ rfl
    have c14 : W.cell? ⟨B, 14, none⟩ = some (.int .u8 h.i2) := hb.cell 14 _ rfl
    have e4 : (UInt8.ofNat h.i0).toNat = h.i0 := by simp; omega
    have e5 : (UInt8.ofNat h.i1).toNat = h.i1 := by simp; omega
    have e6 : (UInt8.ofNat h.i2).toNat = h.i2 := by simp; omega
    rcases j with _ | _ | _ | j
    · simpa [Addr.add, Hd.infoBytes, e4] using c12
    · simpa [Addr.add, Hd.infoBytes, e5] using c13
    · simpa [Addr.add, Hd.infoBytes, e6] using c14
    · omega)
  rw [hl] at hc
  exact hc
theorem ex_convS (ρ : Operand → Value) (W : World) (o : Oper) (x : Operand) (p : Option Addr) (n c : Nat) (v : Value) (ho : o.op = .convert 36 9 x) (hx : ρ x = .slice p n c)
    (hr : (convert 36 9 (.slice p n c)).run Tryz.prog W = .ok v W) : (execOp ρ o).run Tryz.prog W = .ok (.value v) W := by
  unfold execOp
  simp only [ho, hx, Sem.run_bind, hr, Result.andThen_ok]
  rfl
theorem beBytes_zero (p : Nat) : ∀ k n, n < 256 ^ k → beBytes (p + k) n = beBytes p 0 ++ beBytes k n := by
  induction p with
  | zero => intro k n _; simp [beBytes]
  | succ p ih =>
    intro k n h
    have hz : n / 256 ^ (p + k) = 0 := Nat.div_eq_of_lt (Nat.lt_of_lt_of_le h (Nat.pow_le_pow_right (by decide) (by omega)))
    rw [show p + 1 + k = (p + k) + 1 by omega, beBytes_succ, beBytes_succ, hz, ih k n h]
    simp
end Go.Proofs.YtcdhllajdpalaaaGreatDoor
