/-
  The document's own May of heads: one region of 104 operations, over a frame of which few slots are known.
-/
import Derived.Test.YtcdhllajdpalaaaGreatDoorRefHead
import Derived.Test.YtcdhllajdpalaaaGreatDoorFrA
import Derived.Deep.Cut
namespace Go.Proofs.YtcdhllajdpalaaaGreatDoor
open Go.ChangeShapes Go.WideShapes Go.ChangeAt Go.RowKit
set_option linter.unusedVariables false

theorem ex_field (ρ : Operand → Value) (w : World) (o : Oper) (C i : Nat) (hi : i < 13) (ho : o.op = .fieldAddr 26 (.tmp 1) i) (hp : ρ (.tmp 1) = .pointer (some ⟨C, 0, none⟩)) :
    (execOp ρ o).run Tryz.prog w = .ok (.value (.pointer (some ⟨C, i, none⟩))) w := by
  have hc : i = 0 ∨ i = 1 ∨ i = 2 ∨ i = 3 ∨ i = 4 ∨ i = 5 ∨ i = 6 ∨ i = 7 ∨ i = 8 ∨ i = 9 ∨ i = 10 ∨ i = 11 ∨ i = 12 := by omega
  unfold execOp
  rw [ho]
  simp only [hp]
  rcases hc with rfl | rfl | rfl | rfl | rfl | rfl | rfl | rfl | rfl | rfl | rfl | rfl | rfl
  all_goals simp [go_sem]
theorem ex_load (ρ : Operand → Value) (w : World) (o : Oper) (C i : Nat) (T : TypeId) (x : Operand) (v : Value) (ho : o.op = .load T x) (hT : T = 3 ∨ T = 4 ∨ T = 22 ∨ T = 23)
    (hp : ρ x = .pointer (some ⟨C, i, none⟩)) (hc : w.cell? ⟨C, i, none⟩ = some v) :
    (execOp ρ o).run Tryz.prog w = .ok (.value v) w := by
  unfold execOp
  rw [ho]
  simp only [hp]
  rcases hT with rfl | rfl | rfl | rfl
  all_goals simp [go_sem, hc]
/-- What a comparison of integers says. -/
def cmpI (b : BinOp) (u v : Int) : Bool := match b with | .eql => u == v | .neq => u != v | .lss => decide (u < v) | .gtr => decide (v < u) | .geq => decide (v ≤ u) | .leq => decide (u ≤ v) | _ => false
theorem ex_cmp (ρ : Operand → Value) (w : World) (o : Oper) (b : BinOp) (k : IntKind) (T : TypeId) (x y : Operand) (u v : Int) (ho : o.op = .binOp b T x y T) (hT : T = 3 ∧ k = .i64 ∨ T = 22 ∧ k = .u64 ∨ T = 23 ∧ k = .u32) (hx : ρ x = .int k u) (hy : ρ y = .int k v)
    (hb : b = .eql ∨ b = .neq ∨ b = .lss ∨ b = .gtr ∨ b = .geq ∨ b = .leq) :
    (execOp ρ o).run Tryz.prog w = .ok (.value (.bool (cmpI b u v))) w := by
  unfold execOp
  rw [ho]
  simp only [hx, hy]
  rcases hT with ⟨rfl, rfl⟩ | ⟨rfl, rfl⟩ | ⟨rfl, rfl⟩
  all_goals rcases hb with rfl | rfl | rfl | rfl | rfl | rfl
  all_goals simp [go_sem, cmpI]
theorem ex_quo4 (ρ : Operand → Value) (w : World) (o : Oper) (x : Operand) (n : Nat) (hn : n ≤ 28) (ho : o.op = .binOp .quo 3 x (.const (.int .i64 4)) 3) (hx : ρ x = .int .i64 n) (hy : ρ (.const (.int .i64 4)) = .int .i64 4) :
    (execOp ρ o).run Tryz.prog w = .ok (.value (.int .i64 (n / 4 : Nat))) w := by
  unfold execOp
  rw [ho]
  simp only [hx, hy]
  have h1 : (n : Int).tdiv 4 = ((n / 4 : Nat) : Int) := by rw [Int.tdiv_eq_ediv_of_nonneg (by omega)]; omega
  simp [go_sem, h1]
  rw [IntKind.wrap_i64]; omega
theorem ex_not (ρ : Operand → Value) (w : World) (o : Oper) (x : Operand) (T : TypeId) (b : Bool) (ho : o.op = .unOp .not T x) (hx : ρ x = .bool b) :
    (execOp ρ o).run Tryz.prog w = .ok (.value (.bool !b)) w := by
  unfold execOp
  rw [ho]
  simp only [hx]
  simp [go_sem]
theorem ex_call1 (ρ : Operand → Value) (w : World) (o : Oper) (f : FuncId) (x : Operand) (v : Value) (ats : Array TypeId) (hf : f = 10) (ho : o.op = .call { callee := .value (.func f), args := #[x], argTypes := ats }) (hx : ρ x = v) (hfv : ρ (.func f) = .func (.func f) #[] #[]) :
    (execOp ρ o).run Tryz.prog w = .ok (.enter f #[v]) w := by
  subst hf
  unfold execOp
  rw [ho]
  simp [go_sem, resolve, hx, hfv]

/-- What is known of the frame at the long test. -/
structure MhSt (C : Nat) (z m : Int) (sv : Bool) (a : Act) : Prop where
  size : a.tmps.size = 138
  defers : a.defers = []
  p : a.eval (.tmp 1) = .pointer (some ⟨C, 0, none⟩)
  z : a.eval (.tmp 3) = .int .i64 z
  m : a.eval (.tmp 4) = .int .u64 m
  sv : a.eval (.tmp 5) = .bool sv
theorem MhSt.kept {C n : Nat} {z m : Int} {sv : Bool} {a b : Act} (h : MhSt C z m sv a) (k : Fr.Kept n a b) (hn : 6 ≤ n) : MhSt C z m sv b :=
  ⟨by rw [k.size, h.size], by rw [k.defers, h.defers], by rw [k.slot 1 (by omega), h.p], by rw [k.slot 3 (by omega), h.z], by rw [k.slot 4 (by omega), h.m], by rw [k.slot 5 (by omega), h.sv]⟩

/-- One member of the long test: a field against a constant. -/
theorem mh_or {ops : Array Oper} {Q : Exit → Act → World → Prop} {a : Act} {w : World} {rest : List Oper} {o1 o2 o3 o4 o5 : Oper} {C : Nat} {z m : Int} {sv : Bool} (ha : MhSt C z m sv a)
    (d s g i : Nat) (b : BinOp) (u v : Int) (B : Bool) (hi : i < 13) (hc : w.cell? ⟨C, i, none⟩ = some (.int .i64 u))
    (hgs : (ops[g]?).bind (·.dst) = some s) (hsd : s < d) (hd : 6 ≤ d) (hz : d + 4 < 138) (hu : a.eval (.tmp s) = .bool B)
    (g1 : o1.guard = some (g, false)) (g2 : o2.guard = some (g, false)) (g3 : o3.guard = some (g, false)) (g4 : o4.guard = none) (g5 : o5.guard = none)
    (d1 : o1.dst = some d) (d2 : o2.dst = some (d + 1)) (d3 : o3.dst = some (d + 2)) (d4 : o4.dst = some (d + 3)) (d5 : o5.dst = some (d + 4))
    (h1 : o1.op = .fieldAddr 26 (.tmp 1) i) (h2 : o2.op = .load 3 (.tmp d)) (h3 : o3.op = .binOp b 3 (.tmp (d + 1)) (.const (.int .i64 v)) 3)
    (hb : b = .eql ∨ b = .neq ∨ b = .lss ∨ b = .gtr ∨ b = .geq ∨ b = .leq)
    (h4 : o4.op = .pick (.tmp s) (.const (.bool true)) (.tmp (d + 2))) (h5 : o5.op = .move (.tmp (d + 3)))
    (h : ∀ a', MhSt C z m sv a' → a'.eval (.tmp (d + 4)) = .bool (B || cmpI b u v) → wpList Tryz.prog ops Q rest a' w) :
    wpList Tryz.prog ops Q (o1 :: o2 :: o3 :: o4 :: o5 :: rest) a w := by
  refine Fr.or3 d s g (.pointer (some ⟨C, i, none⟩)) (.int .i64 u) (cmpI b u v) B hgs hsd (by rw [ha.size]; exact hz) hu g1 g2 g3 g4 g5 d1 d2 d3 d4 d5 h4 h5 ?_ ?_ ?_ ?_
  · intro a' k; exact ex_field _ w o1 C i hi h1 (by rw [k.slot 1 (by omega)]; exact ha.p)
  · intro a' e k; exact ex_load _ w o2 C i _ _ _ h2 (.inl rfl) e hc
  · intro a' e k; exact ex_cmp _ w o3 b .i64 _ _ _ u v h3 (.inl ⟨rfl, rfl⟩) e rfl hb
  · intro a' k e; exact h a' (ha.kept k hd) e
/-- One member of the long test: a number of 64 bits against the most. -/
theorem mh_or64 {ops : Array Oper} {Q : Exit → Act → World → Prop} {a : Act} {w : World} {rest : List Oper} {o1 o2 o3 o4 o5 o6 : Oper} {C : Nat} {z m : Int} {sv : Bool} (ha : MhSt C z m sv a)
    (d s g i : Nat) (u : Int) (B : Bool) (hi : i < 13) (hc : w.cell? ⟨C, i, none⟩ = some (.int .u64 u))
    (hgs : (ops[g]?).bind (·.dst) = some s) (hsd : s < d) (hd : 6 ≤ d) (hz : d + 5 < 138) (hu : a.eval (.tmp s) = .bool B)
    (g1 : o1.guard = some (g, false)) (g2 : o2.guard = some (g, false)) (g3 : o3.guard = some (g, false)) (g4 : o4.guard = some (g, false)) (g5 : o5.guard = none) (g6 : o6.guard = none)
    (d1 : o1.dst = some d) (d2 : o2.dst = some (d + 1)) (d3 : o3.dst = some (d + 2)) (d4 : o4.dst = some (d + 3)) (d5 : o5.dst = some (d + 4)) (d6 : o6.dst = some (d + 5))
    (h1 : o1.op = .fieldAddr 26 (.tmp 1) i) (h2 : o2.op = .load 22 (.tmp d)) (h3 : o3.op = .move (.tmp 4)) (h4 : o4.op = .binOp .geq 22 (.tmp (d + 1)) (.tmp (d + 2)) 22)
    (h5 : o5.op = .pick (.tmp s) (.const (.bool true)) (.tmp (d + 3))) (h6 : o6.op = .move (.tmp (d + 4)))
    (h : ∀ a', MhSt C z m sv a' → a'.eval (.tmp (d + 5)) = .bool (B || decide (m ≤ u)) → wpList Tryz.prog ops Q rest a' w) :
    wpList Tryz.prog ops Q (o1 :: o2 :: o3 :: o4 :: o5 :: o6 :: rest) a w := by
  refine Fr.or4 d s g (.pointer (some ⟨C, i, none⟩)) (.int .u64 u) (.int .u64 m) (decide (m ≤ u)) B hgs hsd (by rw [ha.size]; exact hz) hu g1 g2 g3 g4 g5 g6 d1 d2 d3 d4 d5 d6 h5 h6 ?_ ?_ ?_ ?_ ?_
  · intro a' k; exact ex_field _ w o1 C i hi h1 (by rw [k.slot 1 (by omega)]; exact ha.p)
  · intro a' e k; exact ex_load _ w o2 C i _ _ _ h2 (.inr (.inr (.inl rfl))) e hc
  · intro a' k
    have := (k.slot 4 (by omega)).trans ha.m
    unfold execOp; rw [h3]; show Sem.run Tryz.prog (pure (Next.value (a'.eval (.tmp 4)))) w = _; rw [this]; rfl
  · intro a' e f k; exact ex_cmp _ w o4 .geq .u64 _ _ _ u m h4 (.inr (.inl ⟨rfl, rfl⟩)) e f (by simp)
  · intro a' k e; exact h a' (ha.kept k hd) e
/-- The member that asks for the head's place. -/
theorem mh_off {ops : Array Oper} {Q : Exit → Act → World → Prop} {a : Act} {w : World} {rest : List Oper} {o1 o2 o3 o4 o5 o6 o7 : Oper} {C : Nat} {n : Nat} {m : Int} {sv : Bool} (ha : MhSt C n m sv a) (hn : n ≤ 28)
    (d s g i : Nat) (u : Int) (B : Bool) (hi : i < 13) (hc : w.cell? ⟨C, i, none⟩ = some (.int .i64 u))
    (hgs : (ops[g]?).bind (·.dst) = some s) (hsd : s < d) (hd : 6 ≤ d) (hz : d + 6 < 138) (hu : a.eval (.tmp s) = .bool B)
    (g1 : o1.guard = some (g, false)) (g2 : o2.guard = some (g, false)) (g3 : o3.guard = some (g, false)) (g4 : o4.guard = some (g, false)) (g5 : o5.guard = some (g, false)) (g6 : o6.guard = none) (g7 : o7.guard = none)
    (d1 : o1.dst = some d) (d2 : o2.dst = some (d + 1)) (d3 : o3.dst = some (d + 2)) (d4 : o4.dst = some (d + 3)) (d5 : o5.dst = some (d + 4)) (d6 : o6.dst = some (d + 5)) (d7 : o7.dst = some (d + 6))
    (h1 : o1.op = .fieldAddr 26 (.tmp 1) i) (h2 : o2.op = .load 3 (.tmp d)) (h3 : o3.op = .move (.tmp 3)) (h4 : o4.op = .binOp .quo 3 (.tmp (d + 2)) (.const (.int .i64 4)) 3)
    (h5 : o5.op = .binOp .lss 3 (.tmp (d + 1)) (.tmp (d + 3)) 3)
    (h6 : o6.op = .pick (.tmp s) (.const (.bool true)) (.tmp (d + 4))) (h7 : o7.op = .move (.tmp (d + 5)))
    (h : ∀ a', MhSt C n m sv a' → a'.eval (.tmp (d + 6)) = .bool (B || decide (u < (n / 4 : Nat))) → wpList Tryz.prog ops Q rest a' w) :
    wpList Tryz.prog ops Q (o1 :: o2 :: o3 :: o4 :: o5 :: o6 :: o7 :: rest) a w := by
  refine Fr.or5 d s g (.pointer (some ⟨C, i, none⟩)) (.int .i64 u) (.int .i64 n) (.int .i64 (n / 4 : Nat)) (decide (u < (n / 4 : Nat))) B hgs hsd (by rw [ha.size]; exact hz) hu g1 g2 g3 g4 g5 g6 g7 d1 d2 d3 d4 d5 d6 d7 h6 h7 ?_ ?_ ?_ ?_ ?_ ?_
  · intro a' k; exact ex_field _ w o1 C i hi h1 (by rw [k.slot 1 (by omega)]; exact ha.p)
  · intro a' e k; exact ex_load _ w o2 C i _ _ _ h2 (.inl rfl) e hc
  · intro a' k
    have := (k.slot 3 (by omega)).trans ha.z
    unfold execOp; rw [h3]; show Sem.run Tryz.prog (pure (Next.value (a'.eval (.tmp 3)))) w = _; rw [this]; rfl
  · intro a' e k; exact ex_quo4 _ w o4 _ n hn h4 e rfl
  · intro a' e f k; exact ex_cmp _ w o5 .lss .i64 _ _ _ u _ h5 (.inl ⟨rfl, rfl⟩) e f (by simp)
  · intro a' k e; exact h a' (ha.kept k hd) e

/-- The member '!HasAck(Type) && Ack != 0'. -/
theorem mh_ack {ops : Array Oper} {Q : Exit → Act → World → Prop} {a : Act} {w : World} {rest : List Oper} {o1 o2 o3 o4 o5 o6 o7 o8 o9 o10 o11 : Oper} {C : Nat} {z m : Int} {sv : Bool} (ha : MhSt C z m sv a)
    (d s g g2 : Nat) (ty ak : Int) (B hk : Bool) (hc : w.cell? ⟨C, 6, none⟩ = some (.int .i64 ty)) (hc9 : w.cell? ⟨C, 9, none⟩ = some (.int .u64 ak))
    (hcall : Calls Tryz.prog 10 #[.int .i64 ty] w fun e w' => e = .returned (.bool hk) ∧ w = w')
    (hgs : (ops[g]?).bind (·.dst) = some s) (hgs2 : (ops[g2]?).bind (·.dst) = some (d + 4)) (hsd : s < d) (hd : 6 ≤ d) (hz : d + 10 < 138) (hu : a.eval (.tmp s) = .bool B)
    (g1 : o1.guard = some (g, false)) (gg2 : o2.guard = some (g, false)) (g3 : o3.guard = some (g, false)) (g4 : o4.guard = some (g, false)) (g5 : o5.guard = some (g, false))
    (g6 : o6.guard = some (g2, true)) (g7 : o7.guard = some (g2, true)) (g8 : o8.guard = some (g2, true)) (g9 : o9.guard = some (g, false)) (g10 : o10.guard = none) (g11 : o11.guard = none)
    (d1 : o1.dst = some d) (d2 : o2.dst = some (d + 1)) (d3 : o3.dst = some (d + 2)) (d4 : o4.dst = some (d + 3)) (d5 : o5.dst = some (d + 4)) (d6 : o6.dst = some (d + 5)) (d7 : o7.dst = some (d + 6)) (d8 : o8.dst = some (d + 7)) (d9 : o9.dst = some (d + 8)) (d10 : o10.dst = some (d + 9)) (d11 : o11.dst = some (d + 10))
    (h1 : o1.op = .fieldAddr 26 (.tmp 1) 6) (h2 : o2.op = .load 3 (.tmp d)) (ats : Array TypeId) (h3 : o3.op = .call { callee := .value (.func 10), args := #[.tmp (d + 1)], argTypes := ats }) (h4 : o4.op = .unOp .not 4 (.tmp (d + 2))) (h5 : o5.op = .move (.tmp (d + 3)))
    (h6 : o6.op = .fieldAddr 26 (.tmp 1) 9) (h7 : o7.op = .load 22 (.tmp (d + 5))) (h8 : o8.op = .binOp .neq 22 (.tmp (d + 6)) (.const (.int .u64 0)) 22)
    (h9 : o9.op = .pick (.tmp (d + 4)) (.tmp (d + 7)) (.const (.bool false))) (h10 : o10.op = .pick (.tmp s) (.const (.bool true)) (.tmp (d + 8))) (h11 : o11.op = .move (.tmp (d + 9)))
    (h : ∀ a', MhSt C z m sv a' → a'.eval (.tmp (d + 10)) = .bool (B || (!hk && (ak != 0))) → wpList Tryz.prog ops Q rest a' w) :
    wpList Tryz.prog ops Q (o1 :: o2 :: o3 :: o4 :: o5 :: o6 :: o7 :: o8 :: o9 :: o10 :: o11 :: rest) a w := by
  have k0 := Fr.Kept.refl d a
  have sz := ha.size
  cases B
  · refine Fr.val d1 (Fr.yes g1 hgs hu) (ex_field _ w o1 C 6 (by decide) h1 ha.p) ?_
    have k1 := k0.put d (.pointer (some ⟨C, 6, none⟩)) (Nat.le_refl _)
    have e1 := Fr.put_same (a := a) (.pointer (some ⟨C, 6, none⟩)) (show d < a.tmps.size by omega)
    generalize a.put (some d) (.pointer (some ⟨C, 6, none⟩)) = a1 at *
    refine Fr.val d2 (Fr.yes gg2 hgs (by rw [k1.slot s hsd]; exact hu)) (ex_load _ w o2 C 6 _ _ _ h2 (.inl rfl) e1 hc) ?_
    have k2 := k1.put (d + 1) (.int .i64 ty) (by omega)
    have e2 := Fr.put_same (a := a1) (.int .i64 ty) (show d + 1 < a1.tmps.size by rw [k1.size]; omega)
    generalize a1.put (some (d + 1)) (.int .i64 ty) = a2 at *
    refine Fr.call d3 (Fr.yes g3 hgs (by rw [k2.slot s hsd]; exact hu)) (ex_call1 _ w o3 _ _ _ ats rfl h3 e2 rfl) hcall ?_
    have k3 := k2.put (d + 2) (.bool hk) (by omega)
    have e3 := Fr.put_same (a := a2) (.bool hk) (show d + 2 < a2.tmps.size by rw [k2.size]; omega)
    generalize a2.put (some (d + 2)) (.bool hk) = a3 at *
    refine Fr.val d4 (Fr.yes g4 hgs (by rw [k3.slot s hsd]; exact hu)) (ex_not _ w o4 _ _ hk h4 e3) ?_
    have k4 := k3.put (d + 3) (.bool !hk) (by omega)
    have e4 := Fr.put_same (a := a3) (.bool !hk) (show d + 3 < a3.tmps.size by rw [k3.size]; omega)
    generalize a3.put (some (d + 3)) (.bool !hk) = a4 at *
    refine Fr.move d5 (Fr.yes g5 hgs (by rw [k4.slot s hsd]; exact hu)) h5 ?_
    rw [e4]
    have k5 := k4.put (d + 4) (.bool !hk) (by omega)
    have e5 := Fr.put_same (a := a4) (.bool !hk) (show d + 4 < a4.tmps.size by rw [k4.size]; omega)
    generalize a4.put (some (d + 4)) (.bool !hk) = a5 at *
    cases hk
    · refine Fr.val d6 (Fr.yes g6 hgs2 e5) (ex_field _ w o6 C 9 (by decide) h6 (by rw [k5.slot 1 (by omega)]; exact ha.p)) ?_
      have k6 := k5.put (d + 5) (.pointer (some ⟨C, 9, none⟩)) (by omega)
      have e6 := Fr.put_same (a := a5) (.pointer (some ⟨C, 9, none⟩)) (show d + 5 < a5.tmps.size by rw [k5.size]; omega)
      have f6 := (Fr.put_other (a := a5) (d := d + 5) (j := d + 4) (.pointer (some ⟨C, 9, none⟩)) (by omega)).trans e5
      generalize a5.put (some (d + 5)) (.pointer (some ⟨C, 9, none⟩)) = a6 at *
      refine Fr.val d7 (Fr.yes g7 hgs2 f6) (ex_load _ w o7 C 9 _ _ _ h7 (.inr (.inr (.inl rfl))) e6 hc9) ?_
      have k7 := k6.put (d + 6) (.int .u64 ak) (by omega)
      have e7 := Fr.put_same (a := a6) (.int .u64 ak) (show d + 6 < a6.tmps.size by rw [k6.size]; omega)
      have f7 := (Fr.put_other (a := a6) (d := d + 6) (j := d + 4) (.int .u64 ak) (by omega)).trans f6
      generalize a6.put (some (d + 6)) (.int .u64 ak) = a7 at *
      refine Fr.val d8 (Fr.yes g8 hgs2 f7) (ex_cmp _ w o8 .neq .u64 _ _ _ ak 0 h8 (.inr (.inl ⟨rfl, rfl⟩)) e7 rfl (by simp)) ?_
      have k8 := k7.put (d + 7) (.bool (cmpI .neq ak 0)) (by omega)
      have e8 := Fr.put_same (a := a7) (.bool (cmpI .neq ak 0)) (show d + 7 < a7.tmps.size by rw [k7.size]; omega)
      have f8 := (Fr.put_other (a := a7) (d := d + 7) (j := d + 4) (.bool (cmpI .neq ak 0)) (by omega)).trans f7
      generalize a7.put (some (d + 7)) (.bool (cmpI .neq ak 0)) = a8 at *
      refine Fr.pick d9 (Fr.yes g9 hgs (by rw [k8.slot s hsd]; exact hu)) h9 f8 ?_
      rw [if_pos (by rfl), e8]
      have k9 := k8.put (d + 8) (.bool (cmpI .neq ak 0)) (by omega)
      have e9 := Fr.put_same (a := a8) (.bool (cmpI .neq ak 0)) (show d + 8 < a8.tmps.size by rw [k8.size]; omega)
      generalize a8.put (some (d + 8)) (.bool (cmpI .neq ak 0)) = a9 at *
      exact Fr.orEnd k9 d10 d11 g10 g11 h10 h11 (by omega) (by omega) (by rw [k9.slot s hsd]; exact hu) (fun _ => e9) (fun a' k e => h a' (ha.kept k hd) e)
    · refine Fr.skip d6 (Fr.no g6 hgs2 e5) ?_
      have k6 := k5.put (d + 5) undef (by omega)
      have f6 := (Fr.put_other (a := a5) (d := d + 5) (j := d + 4) undef (by omega)).trans e5
      generalize a5.put (some (d + 5)) undef = a6 at *
      refine Fr.skip d7 (Fr.no g7 hgs2 f6) ?_
      have k7 := k6.put (d + 6) undef (by omega)
      have f7 := (Fr.put_other (a := a6) (d := d + 6) (j := d + 4) undef (by omega)).trans f6
      generalize a6.put (some (d + 6)) undef = a7 at *
      refine Fr.skip d8 (Fr.no g8 hgs2 f7) ?_
      have k8 := k7.put (d + 7) undef (by omega)
      have f8 := (Fr.put_other (a := a7) (d := d + 7) (j := d + 4) undef (by omega)).trans f7
      generalize a7.put (some (d + 7)) undef = a8 at *
      refine Fr.pick d9 (Fr.yes g9 hgs (by rw [k8.slot s hsd]; exact hu)) h9 f8 ?_
      rw [if_neg (by decide)]
      have k9 := k8.put (d + 8) (.bool false) (by omega)
      have e9 := Fr.put_same (a := a8) (.bool false) (show d + 8 < a8.tmps.size by rw [k8.size]; omega)
      show wpList Tryz.prog ops Q (o10 :: o11 :: rest) (a8.put (some (d + 8)) (.bool false)) w
      generalize a8.put (some (d + 8)) (.bool false) = a9 at *
      exact Fr.orEnd k9 d10 d11 g10 g11 h10 h11 (by omega) (by omega) (by rw [k9.slot s hsd]; exact hu) (fun _ => e9) (fun a' k e => h a' (ha.kept k hd) e)
  · have k1 := k0.put d undef (Nat.le_refl _)
    have k2 := k1.put (d + 1) undef (by omega)
    have k3 := k2.put (d + 2) undef (by omega)
    have k4 := k3.put (d + 3) undef (by omega)
    refine Fr.skip d1 (Fr.no g1 hgs hu) ?_
    refine Fr.skip d2 (Fr.no gg2 hgs (by rw [k1.slot s hsd]; exact hu)) ?_
    refine Fr.skip d3 (Fr.no g3 hgs (by rw [k2.slot s hsd]; exact hu)) ?_
    refine Fr.skip d4 (Fr.no g4 hgs (by rw [k3.slot s hsd]; exact hu)) ?_
    refine Fr.skip d5 (Fr.no g5 hgs (by rw [k4.slot s hsd]; exact hu)) ?_
    generalize (((a.put (some d) undef).put (some (d + 1)) undef).put (some (d + 2)) undef).put (some (d + 3)) undef = a4 at *
    have k5 := k4.put (d + 4) undef (by omega)
    have f5 := Fr.put_same (a := a4) undef (show d + 4 < a4.tmps.size by rw [k4.size]; omega)
    generalize a4.put (some (d + 4)) undef = a5 at *
    refine Fr.skip d6 (Fr.nor g6 hgs2 f5) ?_
    have k6 := k5.put (d + 5) undef (by omega)
    have f6 := (Fr.put_other (a := a5) (d := d + 5) (j := d + 4) undef (by omega)).trans f5
    generalize a5.put (some (d + 5)) undef = a6 at *
    refine Fr.skip d7 (Fr.nor g7 hgs2 f6) ?_
    have k7 := k6.put (d + 6) undef (by omega)
    have f7 := (Fr.put_other (a := a6) (d := d + 6) (j := d + 4) undef (by omega)).trans f6
    generalize a6.put (some (d + 6)) undef = a7 at *
    refine Fr.skip d8 (Fr.nor g8 hgs2 f7) ?_
    have k8 := k7.put (d + 7) undef (by omega)
    refine Fr.skip d9 (Fr.no g9 hgs (by rw [k8.slot s hsd]; exact hu)) ?_
    have k9 := k8.put (d + 8) undef (by omega)
    exact Fr.orEnd (b := !hk && (ak != 0)) k9 d10 d11 g10 g11 h10 h11 (by omega) (by omega) (by rw [k9.slot s hsd]; exact hu) (fun hB => by cases hB) (fun a' k e => h a' (ha.kept k hd) e)
/-- The last member: '!service && Service != 0'. -/
theorem mh_service {ops : Array Oper} {Q : Exit → Act → World → Prop} {a : Act} {w : World} {o1 o2 o3 o4 o5 o6 o7 o8 : Oper} {C : Nat} {z m : Int} {sv : Bool} (ha : MhSt C z m sv a)
    (d s g g2 : Nat) (u : Int) (B : Bool) (hc : w.cell? ⟨C, 10, none⟩ = some (.int .u32 u))
    (hgs : (ops[g]?).bind (·.dst) = some s) (hgs2 : (ops[g2]?).bind (·.dst) = some (d + 2)) (hsd : s < d) (hd : 6 ≤ d) (hz : d + 7 < 138) (hu : a.eval (.tmp s) = .bool B)
    (g1 : o1.guard = some (g, false)) (gg2 : o2.guard = some (g, false)) (g3 : o3.guard = some (g, false))
    (g4 : o4.guard = some (g2, true)) (g5 : o5.guard = some (g2, true)) (g6 : o6.guard = some (g2, true)) (g7 : o7.guard = some (g, false)) (g8 : o8.guard = none)
    (d1 : o1.dst = some d) (d2 : o2.dst = some (d + 1)) (d3 : o3.dst = some (d + 2)) (d4 : o4.dst = some (d + 3)) (d5 : o5.dst = some (d + 4)) (d6 : o6.dst = some (d + 5)) (d7 : o7.dst = some (d + 6)) (d8 : o8.dst = some (d + 7))
    (h1 : o1.op = .move (.tmp 5)) (h2 : o2.op = .unOp .not 4 (.tmp d)) (h3 : o3.op = .move (.tmp (d + 1)))
    (h4 : o4.op = .fieldAddr 26 (.tmp 1) 10) (h5 : o5.op = .load 23 (.tmp (d + 3))) (h6 : o6.op = .binOp .neq 23 (.tmp (d + 4)) (.const (.int .u32 0)) 23)
    (h7 : o7.op = .pick (.tmp (d + 2)) (.tmp (d + 5)) (.const (.bool false))) (h8 : o8.op = .pick (.tmp s) (.const (.bool true)) (.tmp (d + 6)))
    (h : ∀ a', MhSt C z m sv a' → a'.eval (.tmp (d + 7)) = .bool (B || (!sv && (u != 0))) → Q .normal a' w) :
    wpList Tryz.prog ops Q [o1, o2, o3, o4, o5, o6, o7, o8] a w := by
  have k0 := Fr.Kept.refl d a
  have sz := ha.size
  have fin : ∀ a7 : Act, Fr.Kept d a a7 → (B = false → a7.eval (.tmp (d + 6)) = .bool (!sv && (u != 0))) → wpList Tryz.prog ops Q [o8] a7 w := fun a7 k7 hr => by
    have k8 := k7.put (d + 7) (.bool (B || (!sv && (u != 0)))) (by omega)
    have e8 := Fr.put_same (a := a7) (.bool (B || (!sv && (u != 0)))) (show d + 7 < a7.tmps.size by rw [k7.size]; omega)
    refine Fr.pick (b := B) d8 (Fr.open_ g8) h8 (by rw [k7.slot s hsd]; exact hu) ?_
    refine wpList_nil ?_
    have ev : (if B = true then a7.eval (.const (.bool true)) else a7.eval (.tmp (d + 6))) = .bool (B || (!sv && (u != 0))) := by
      cases B
      · rw [if_neg (by decide), hr rfl]; rfl
      · rw [if_pos rfl]; rfl
    rw [ev]
    exact h _ (ha.kept k8 hd) e8
  cases B
  · refine Fr.move d1 (Fr.yes g1 hgs hu) h1 ?_
    rw [ha.sv]
    have k1 := k0.put d (.bool sv) (Nat.le_refl _)
    have e1 := Fr.put_same (a := a) (.bool sv) (show d < a.tmps.size by omega)
    generalize a.put (some d) (.bool sv) = a1 at *
    refine Fr.val d2 (Fr.yes gg2 hgs (by rw [k1.slot s hsd]; exact hu)) (ex_not _ w o2 _ _ sv h2 e1) ?_
    have k2 := k1.put (d + 1) (.bool !sv) (by omega)
    have e2 := Fr.put_same (a := a1) (.bool !sv) (show d + 1 < a1.tmps.size by rw [k1.size]; omega)
    generalize a1.put (some (d + 1)) (.bool !sv) = a2 at *
    refine Fr.move d3 (Fr.yes g3 hgs (by rw [k2.slot s hsd]; exact hu)) h3 ?_
    rw [e2]
    have k3 := k2.put (d + 2) (.bool !sv) (by omega)
    have e3 := Fr.put_same (a := a2) (.bool !sv) (show d + 2 < a2.tmps.size by rw [k2.size]; omega)
    generalize a2.put (some (d + 2)) (.bool !sv) = a3 at *
    cases sv
    · refine Fr.val d4 (Fr.yes g4 hgs2 e3) (ex_field _ w o4 C 10 (by decide) h4 (by rw [k3.slot 1 (by omega)]; exact ha.p)) ?_
      have k4 := k3.put (d + 3) (.pointer (some ⟨C, 10, none⟩)) (by omega)
      have e4 := Fr.put_same (a := a3) (.pointer (some ⟨C, 10, none⟩)) (show d + 3 < a3.tmps.size by rw [k3.size]; omega)
      have f4 := (Fr.put_other (a := a3) (d := d + 3) (j := d + 2) (.pointer (some ⟨C, 10, none⟩)) (by omega)).trans e3
      generalize a3.put (some (d + 3)) (.pointer (some ⟨C, 10, none⟩)) = a4 at *
      refine Fr.val d5 (Fr.yes g5 hgs2 f4) (ex_load _ w o5 C 10 _ _ _ h5 (.inr (.inr (.inr rfl))) e4 hc) ?_
      have k5 := k4.put (d + 4) (.int .u32 u) (by omega)
      have e5 := Fr.put_same (a := a4) (.int .u32 u) (show d + 4 < a4.tmps.size by rw [k4.size]; omega)
      have f5 := (Fr.put_other (a := a4) (d := d + 4) (j := d + 2) (.int .u32 u) (by omega)).trans f4
      generalize a4.put (some (d + 4)) (.int .u32 u) = a5 at *
      refine Fr.val d6 (Fr.yes g6 hgs2 f5) (ex_cmp _ w o6 .neq .u32 _ _ _ u 0 h6 (.inr (.inr ⟨rfl, rfl⟩)) e5 rfl (by simp)) ?_
      have k6 := k5.put (d + 5) (.bool (cmpI .neq u 0)) (by omega)
      have e6 := Fr.put_same (a := a5) (.bool (cmpI .neq u 0)) (show d + 5 < a5.tmps.size by rw [k5.size]; omega)
      have f6 := (Fr.put_other (a := a5) (d := d + 5) (j := d + 2) (.bool (cmpI .neq u 0)) (by omega)).trans f5
      generalize a5.put (some (d + 5)) (.bool (cmpI .neq u 0)) = a6 at *
      refine Fr.pick d7 (Fr.yes g7 hgs (by rw [k6.slot s hsd]; exact hu)) h7 f6 ?_
      rw [if_pos (by rfl), e6]
      exact fin _ (k6.put (d + 6) _ (by omega)) (fun _ => Fr.put_same _ (by rw [k6.size]; omega))
    · refine Fr.skip d4 (Fr.no g4 hgs2 e3) ?_
      have k4 := k3.put (d + 3) undef (by omega)
      have f4 := (Fr.put_other (a := a3) (d := d + 3) (j := d + 2) undef (by omega)).trans e3
      generalize a3.put (some (d + 3)) undef = a4 at *
      refine Fr.skip d5 (Fr.no g5 hgs2 f4) ?_
      have k5 := k4.put (d + 4) undef (by omega)
      have f5 := (Fr.put_other (a := a4) (d := d + 4) (j := d + 2) undef (by omega)).trans f4
      generalize a4.put (some (d + 4)) undef = a5 at *
      refine Fr.skip d6 (Fr.no g6 hgs2 f5) ?_
      have k6 := k5.put (d + 5) undef (by omega)
      have f6 := (Fr.put_other (a := a5) (d := d + 5) (j := d + 2) undef (by omega)).trans f5
      generalize a5.put (some (d + 5)) undef = a6 at *
      refine Fr.pick d7 (Fr.yes g7 hgs (by rw [k6.slot s hsd]; exact hu)) h7 f6 ?_
      rw [if_neg (by decide)]
      exact fin _ (k6.put (d + 6) _ (by omega)) (fun _ => Fr.put_same _ (by rw [k6.size]; omega))
  · have k1 := k0.put d undef (Nat.le_refl _)
    have k2 := k1.put (d + 1) undef (by omega)
    refine Fr.skip d1 (Fr.no g1 hgs hu) ?_
    refine Fr.skip d2 (Fr.no gg2 hgs (by rw [k1.slot s hsd]; exact hu)) ?_
    refine Fr.skip d3 (Fr.no g3 hgs (by rw [k2.slot s hsd]; exact hu)) ?_
    generalize (a.put (some d) undef).put (some (d + 1)) undef = a2 at *
    have k3 := k2.put (d + 2) undef (by omega)
    have f3 := Fr.put_same (a := a2) undef (show d + 2 < a2.tmps.size by rw [k2.size]; omega)
    generalize a2.put (some (d + 2)) undef = a3 at *
    refine Fr.skip d4 (Fr.nor g4 hgs2 f3) ?_
    have k4 := k3.put (d + 3) undef (by omega)
    have f4 := (Fr.put_other (a := a3) (d := d + 3) (j := d + 2) undef (by omega)).trans f3
    generalize a3.put (some (d + 3)) undef = a4 at *
    refine Fr.skip d5 (Fr.nor g5 hgs2 f4) ?_
    have k5 := k4.put (d + 4) undef (by omega)
    have f5 := (Fr.put_other (a := a4) (d := d + 4) (j := d + 2) undef (by omega)).trans f4
    generalize a4.put (some (d + 4)) undef = a5 at *
    refine Fr.skip d6 (Fr.nor g6 hgs2 f5) ?_
    have k6 := k5.put (d + 5) undef (by omega)
    refine Fr.skip d7 (Fr.no g7 hgs (by rw [k6.slot s hsd]; exact hu)) ?_
    exact fin _ (k6.put (d + 6) undef (by omega)) (fun hB => by cases hB)

/-- The long test's beginning. -/
theorem mh_start {ops : Array Oper} {Q : Exit → Act → World → Prop} {a : Act} {w : World} {rest : List Oper} {o1 o2 o3 : Oper} {C : Nat} {z m : Int} {sv : Bool} (ha : MhSt C z m sv a)
    (g1 : o1.guard = none) (g2 : o2.guard = none) (g3 : o3.guard = none) (d1 : o1.dst = some 22) (d2 : o2.dst = some 23) (d3 : o3.dst = some 24)
    (h1 : o1.op = .move (.tmp 3)) (h2 : o2.op = .binOp .eql 3 (.tmp 22) (.const (.int .i64 0)) 3) (h3 : o3.op = .move (.tmp 23))
    (h : ∀ a', MhSt C z m sv a' → a'.eval (.tmp 24) = .bool (z == 0) → wpList Tryz.prog ops Q rest a' w) :
    wpList Tryz.prog ops Q (o1 :: o2 :: o3 :: rest) a w := by
  have k0 := Fr.Kept.refl 22 a
  have sz := ha.size
  refine Fr.move d1 (Fr.open_ g1) h1 ?_
  rw [ha.z]
  have k1 := k0.put 22 (.int .i64 z) (Nat.le_refl _)
  have e1 := Fr.put_same (a := a) (.int .i64 z) (show 22 < a.tmps.size by omega)
  generalize a.put (some 22) (.int .i64 z) = a1 at *
  refine Fr.val d2 (Fr.open_ g2) (ex_cmp _ w o2 .eql .i64 _ _ _ z 0 h2 (.inl ⟨rfl, rfl⟩) e1 rfl (by simp)) ?_
  have k2 := k1.put 23 (.bool (z == 0)) (by omega)
  have e2 := Fr.put_same (a := a1) (.bool (z == 0)) (show 23 < a1.tmps.size by rw [k1.size]; omega)
  show wpList Tryz.prog ops Q (o3 :: rest) (a1.put (some 23) (.bool (z == 0))) w
  generalize a1.put (some 23) (.bool (z == 0)) = a2 at *
  refine Fr.move d3 (Fr.open_ g3) h3 ?_
  rw [e2]
  exact h _ (ha.kept (k2.put 24 _ (by omega)) (by omega)) (Fr.put_same _ (by rw [k2.size]; omega))

/-- The long test. -/
def Hd.longB (h : Hd) (n : Nat) (m : Int) : Bool :=
  ((((((((((((((((((n : Int) == 0) || decide (h.src < 0)) || decide (65535 < h.src)) || decide (h.dst < 0)) || decide (65535 < h.dst)) || decide (h.off < (n / 4 : Nat))) || decide (255 < h.off)) || decide (h.cc < 0)) || decide (15 < h.cc)) || decide (h.cs < 0)) || decide (15 < h.cs)) || decide (h.sum < 0)) || decide (65535 < h.sum)) ||
    decide (m ≤ (h.seq : Int))) || decide (m ≤ (h.ack : Int))) || (!hasAckB h.type && ((h.ack : Int) != 0))) || (!serviceB h.type && ((h.service : Int) != 0)))

theorem mayB_long (h : Hd) (n m : Nat) (hn : sizeN h.type h.x = n) (hm : mostN h.x = m) :
    h.mayB = (!h.longB n m && (if h.type = 7 then decide (0 ≤ h.code) && decide (h.code ≤ 255) else (h.code == 0) && ((h.i0 : Int) == 0 && ((h.i1 : Int) == 0 && (h.i2 : Int) == 0)))) := by
  rw [Bool.eq_iff_iff, mayB_iff, hn, hm]
  unfold Hd.longB codeB
  simp only [Bool.and_eq_true, Bool.not_eq_true', Bool.or_eq_false_iff, decide_eq_true_eq, decide_eq_false_iff_not, beq_eq_false_iff_ne, Bool.and_eq_false_iff, Bool.not_eq_false', bne_eq_false_iff_eq]
  cases hA : hasAckB h.type <;> cases hS : serviceB h.type <;> by_cases h7 : h.type = 7
  all_goals (simp [h7]; omega)

set_option maxHeartbeats 4000000 in
set_option maxRecDepth 100000 in
theorem refMay_walk (h : Hd) (w : World) (n m : Nat) (xb : Bool) (hxb : h.x = xb) (hn : sizeN h.type h.x = n) (hmx : mostN xb = m) :
    Calls Tryz.prog 8 #[h.val] w fun e w' => e = .returned (.bool h.mayB) ∧ Below w.heap.size w w' := by
  have HSZ := Lib.hid (fun w => refSize_any h.type h.x w)
  have HHA := Lib.hid (fun w => refHasAck_any h.type w)
  have hs := sizeN_le h.type h.x
  rw [hn] at HSZ hs
  have HA : Hid (HdAt h w.heap.size (w.alloc h.box) ∧ Below w.heap.size w (w.alloc h.box)) := Lib.hid ⟨hdAt_box h w, bel_alloc _ _⟩
  unfold Hd.box at HA
  unfold Hd.val
  have HN := Lib.hid hn; have HX := Lib.hid hxb; have HMX := Lib.hid hmx
  clear hn hxb hmx
  go_enter Tryz.func8, Tryz.ntmps8
  go_upto_region 1 with fail
  obtain ⟨hat, hbel⟩ := HA.out
  clear HA
  obtain ⟨C, hC⟩ : ∃ C, C = w.heap.size := ⟨_, rfl⟩
  rw [← hC] at hat ⊢
  generalize w.alloc (Obj.cells #[.int .i64 h.src, .int .i64 h.dst, .int .i64 h.off, .int .i64 h.cc, .int .i64 h.cs, .int .i64 h.sum, .int .i64 h.type, .bool h.x, .int .u64 h.seq, .int .u64 h.ack, .int .u32 h.service, .int .i64 h.code, .int .u8 h.i0, .int .u8 h.i1, .int .u8 h.i2] 26) = W at *
  have HAT := Lib.hid hat; have HBEL := Lib.hid hbel
  have c6 := hat.2.2.2.2.2.2.1
  have c7 := hat.2.2.2.2.2.2.2.1
  rw [HX.out] at c7 HSZ
  clear hat hbel hC
  cases xb
  · go_upto_region 5 with (go_at_call 12; refine (HSZ.out _).mono ?_; rintro e w1 ⟨rfl, rfl⟩)
    refine wp_cut (fun a' w' => MhSt C n 16777216 (serviceB h.type) a' ∧ w' = W) ?rest1 ?first1
    case first1 =>
      intro J K' hJ hK
      by_cases h0 : h.type = 0
      · have hb : (h.type == 0) = true := by rw [beq_iff_eq]; exact h0
        have HS : Hid (serviceB h.type = true) := Lib.hid (decide_eq_true (.inl h0))
        clear h0
        go_wp2
        refine Met.intro (hJ _ _ ⟨⟨rfl, rfl, rfl, rfl, rfl, ?_⟩, rfl⟩)
        rw [HS.out]; rfl
      · have hb : (h.type == 0) = false := by rw [beq_eq_false_iff_ne]; exact h0
        have HS : Hid (serviceB h.type = (h.type == 1)) := Lib.hid (by unfold serviceB; rw [Bool.eq_iff_iff]; simp [h0])
        clear h0
        go_wp2
        refine Met.intro (hJ _ _ ⟨⟨rfl, rfl, rfl, rfl, rfl, ?_⟩, rfl⟩)
        rw [HS.out]; rfl
    case rest1 =>
      rintro a W2 ⟨hst, rfl⟩
      clear c6 c7 HSZ
      go_upto_region 6 with fail
      have hat := HAT.out
      refine wp_cut (fun a' w' => MhSt C n 16777216 (serviceB h.type) a' ∧ a'.eval (.tmp 117) = .bool (h.longB n 16777216) ∧ w' = W2) ?rest2 ?first2
      case first2 =>
        intro J K' hJ hK
        refine wp_region_lit ?_
        refine mh_start hst rfl rfl rfl rfl rfl rfl rfl rfl rfl ?_
        clear hst; intro a' hst hu; clear a; rename Act => a
        refine mh_or hst 25 24 2 0 .lss _ (0) _ (by decide) hat.1 rfl (by decide) (by decide) (by decide) hu rfl rfl rfl rfl rfl rfl rfl rfl rfl rfl rfl rfl rfl (by simp) rfl rfl ?_
        clear hst hu; intro a' hst hu; clear a; rename Act => a
        refine mh_or hst 30 29 7 0 .gtr _ (65535) _ (by decide) hat.1 rfl (by decide) (by decide) (by decide) hu rfl rfl rfl rfl rfl rfl rfl rfl rfl rfl rfl rfl rfl (by simp) rfl rfl ?_
        clear hst hu; intro a' hst hu; clear a; rename Act => a
        refine mh_or hst 35 34 12 1 .lss _ (0) _ (by decide) hat.2.1 rfl (by decide) (by decide) (by decide) hu rfl rfl rfl rfl rfl rfl rfl rfl rfl rfl rfl rfl rfl (by simp) rfl rfl ?_
        clear hst hu; intro a' hst hu; clear a; rename Act => a
        refine mh_or hst 40 39 17 1 .gtr _ (65535) _ (by decide) hat.2.1 rfl (by decide) (by decide) (by decide) hu rfl rfl rfl rfl rfl rfl rfl rfl rfl rfl rfl rfl rfl (by simp) rfl rfl ?_
        clear hst hu; intro a' hst hu; clear a; rename Act => a
        refine mh_off hst hs 45 44 22 2 _ _ (by decide) hat.2.2.1 rfl (by decide) (by decide) (by decide) hu rfl rfl rfl rfl rfl rfl rfl rfl rfl rfl rfl rfl rfl rfl rfl rfl rfl rfl rfl rfl rfl ?_
        clear hst hu; intro a' hst hu; clear a; rename Act => a
        refine mh_or hst 52 51 29 2 .gtr _ (255) _ (by decide) hat.2.2.1 rfl (by decide) (by decide) (by decide) hu rfl rfl rfl rfl rfl rfl rfl rfl rfl rfl rfl rfl rfl (by simp) rfl rfl ?_
        clear hst hu; intro a' hst hu; clear a; rename Act => a
        refine mh_or hst 57 56 34 3 .lss _ (0) _ (by decide) hat.2.2.2.1 rfl (by decide) (by decide) (by decide) hu rfl rfl rfl rfl rfl rfl rfl rfl rfl rfl rfl rfl rfl (by simp) rfl rfl ?_
        clear hst hu; intro a' hst hu; clear a; rename Act => a
        refine mh_or hst 62 61 39 3 .gtr _ (15) _ (by decide) hat.2.2.2.1 rfl (by decide) (by decide) (by decide) hu rfl rfl rfl rfl rfl rfl rfl rfl rfl rfl rfl rfl rfl (by simp) rfl rfl ?_
        clear hst hu; intro a' hst hu; clear a; rename Act => a
        refine mh_or hst 67 66 44 4 .lss _ (0) _ (by decide) hat.2.2.2.2.1 rfl (by decide) (by decide) (by decide) hu rfl rfl rfl rfl rfl rfl rfl rfl rfl rfl rfl rfl rfl (by simp) rfl rfl ?_
        clear hst hu; intro a' hst hu; clear a; rename Act => a
        refine mh_or hst 72 71 49 4 .gtr _ (15) _ (by decide) hat.2.2.2.2.1 rfl (by decide) (by decide) (by decide) hu rfl rfl rfl rfl rfl rfl rfl rfl rfl rfl rfl rfl rfl (by simp) rfl rfl ?_
        clear hst hu; intro a' hst hu; clear a; rename Act => a
        refine mh_or hst 77 76 54 5 .lss _ (0) _ (by decide) hat.2.2.2.2.2.1 rfl (by decide) (by decide) (by decide) hu rfl rfl rfl rfl rfl rfl rfl rfl rfl rfl rfl rfl rfl (by simp) rfl rfl ?_
        clear hst hu; intro a' hst hu; clear a; rename Act => a
        refine mh_or hst 82 81 59 5 .gtr _ (65535) _ (by decide) hat.2.2.2.2.2.1 rfl (by decide) (by decide) (by decide) hu rfl rfl rfl rfl rfl rfl rfl rfl rfl rfl rfl rfl rfl (by simp) rfl rfl ?_
        clear hst hu; intro a' hst hu; clear a; rename Act => a
        refine mh_or64 hst 87 86 64 8 _ _ (by decide) hat.2.2.2.2.2.2.2.2.1 rfl (by decide) (by decide) (by decide) hu rfl rfl rfl rfl rfl rfl rfl rfl rfl rfl rfl rfl rfl rfl rfl rfl rfl rfl ?_
        clear hst hu; intro a' hst hu; clear a; rename Act => a
        refine mh_or64 hst 93 92 70 9 _ _ (by decide) hat.2.2.2.2.2.2.2.2.2.1 rfl (by decide) (by decide) (by decide) hu rfl rfl rfl rfl rfl rfl rfl rfl rfl rfl rfl rfl rfl rfl rfl rfl rfl rfl ?_
        clear hst hu; intro a' hst hu; clear a; rename Act => a
        refine mh_ack hst 99 98 76 81 _ _ _ _ hat.2.2.2.2.2.2.1 hat.2.2.2.2.2.2.2.2.2.1 (HHA.out _) rfl rfl (by decide) (by decide) (by decide) hu rfl rfl rfl rfl rfl rfl rfl rfl rfl rfl rfl rfl rfl rfl rfl rfl rfl rfl rfl rfl rfl rfl rfl rfl _ rfl rfl rfl rfl rfl rfl rfl rfl rfl ?_
        clear hst hu; intro a' hst hu; clear a; rename Act => a
        refine mh_service hst 110 109 87 90 _ _ hat.2.2.2.2.2.2.2.2.2.2.1 rfl rfl (by decide) (by decide) (by decide) hu rfl rfl rfl rfl rfl rfl rfl rfl rfl rfl rfl rfl rfl rfl rfl rfl rfl rfl rfl rfl rfl rfl rfl rfl ?_
        clear hst hu; intro a' hst hu
        exact hK _ _ (Met.intro (hJ _ _ ⟨hst, hu, rfl⟩))
      intro a2 w2 hh
      obtain ⟨hst2, hu2, hw2⟩ := hh
      obtain rfl : W2 = w2 := hw2.symm
      obtain ⟨f, hf⟩ : ∃ f : Nat → Value, f = fun i => a2.eval (.tmp i) := ⟨_, rfl⟩
      have e1 : f 1 = .pointer (some ⟨C, 0, none⟩) := by rw [hf]; exact hst2.p
      have e117 : f 117 = .bool (h.longB n 16777216) := by rw [hf]; exact hu2
      have hl : a2 = ⟨((List.range 138).map f).toArray, []⟩ := by rw [hf]; exact Fr.lit a2 138 hst2.size hst2.defers
      rw [show (List.range 138).map f = [f 0, f 1, f 2, f 3, f 4, f 5, f 6, f 7, f 8, f 9, f 10, f 11, f 12, f 13, f 14, f 15, f 16, f 17, f 18, f 19, f 20, f 21, f 22, f 23, f 24, f 25, f 26, f 27, f 28, f 29, f 30, f 31, f 32, f 33, f 34, f 35, f 36, f 37, f 38, f 39, f 40, f 41, f 42, f 43, f 44, f 45, f 46, f 47, f 48, f 49, f 50, f 51, f 52, f 53, f 54, f 55, f 56, f 57, f 58, f 59, f 60, f 61, f 62, f 63, f 64, f 65, f 66, f 67, f 68, f 69, f 70, f 71, f 72, f 73, f 74, f 75, f 76, f 77, f 78, f 79, f 80, f 81, f 82, f 83, f 84, f 85, f 86, f 87, f 88, f 89, f 90, f 91, f 92, f 93, f 94, f 95, f 96, f 97, f 98, f 99, f 100, f 101, f 102, f 103, f 104, f 105, f 106, f 107, f 108, f 109, f 110, f 111, f 112, f 113, f 114, f 115, f 116, f 117, f 118, f 119, f 120, f 121, f 122, f 123, f 124, f 125, f 126, f 127, f 128, f 129, f 130, f 131, f 132, f 133, f 134, f 135, f 136, f 137] from rfl, e1, e117] at hl
      rw [hl]
      clear hl e1 e117 hf hst2 hu2 hst
      have ME := mayB_long h n m HN.out (by rw [HX.out]; exact HMX.out)
      obtain rfl : m = 16777216 := HMX.out.symm
      obtain ⟨L, hL⟩ : ∃ L, h.longB n 16777216 = L := ⟨_, rfl⟩
      have hL2 : h.longB n ((16777216 : Nat) : Int) = L := hL
      rw [hL2] at ME
      rw [hL]
      have HM := Lib.hid ME
      clear ME hL hL2
      have c6 := hat.2.2.2.2.2.2.1
      have c11 := hat.2.2.2.2.2.2.2.2.2.2.2.1
      have c12 := hat.2.2.2.2.2.2.2.2.2.2.2.2.1
      have c13 := hat.2.2.2.2.2.2.2.2.2.2.2.2.2.1
      have c14 := hat.2.2.2.2.2.2.2.2.2.2.2.2.2.2
      clear hat HAT
      cases L
      · by_cases h7 : h.type = 7
        · have hb7 : (h.type != 7) = false := by rw [h7]; decide
          have H7 := Lib.hid h7; clear h7
          go_wp2
          all_goals go_ret
          all_goals exact ⟨M.ret_bool (by rw [HM.out, if_pos H7.out]; first | (simp [*]; done) | (simp [*]; omega)), HBEL.out⟩
        · have hb7 : (h.type != 7) = true := by rw [bne_iff_ne]; exact h7
          have H7 := Lib.hid h7; clear h7
          have he := fun w => eql3 h.i0 h.i1 h.i2 0 0 0 w
          obtain ⟨cb, hcb⟩ : ∃ cb, (h.code == 0) = cb := ⟨_, rfl⟩
          obtain ⟨ib, hib⟩ : ∃ ib, ((h.i0 : Int) == 0 && ((h.i1 : Int) == 0 && (h.i2 : Int) == 0)) = ib := ⟨_, rfl⟩
          rw [hcb, hib] at HM
          cases cb
          all_goals go_wp2
          all_goals go_ret
          all_goals exact ⟨M.ret_bool (by rw [HM.out, if_neg H7.out]; simp [*]), HBEL.out⟩
      · go_wp2
        go_ret
        exact ⟨M.ret_bool (by rw [HM.out]; rfl), HBEL.out⟩
  · go_upto_region 5 with (go_at_call 12; refine (HSZ.out _).mono ?_; rintro e w1 ⟨rfl, rfl⟩)
    refine wp_cut (fun a' w' => MhSt C n 281474976710656 (serviceB h.type) a' ∧ w' = W) ?rest3 ?first3
    case first3 =>
      intro J K' hJ hK
      by_cases h0 : h.type = 0
      · have hb : (h.type == 0) = true := by rw [beq_iff_eq]; exact h0
        have HS : Hid (serviceB h.type = true) := Lib.hid (decide_eq_true (.inl h0))
        clear h0
        go_wp2
        refine Met.intro (hJ _ _ ⟨⟨rfl, rfl, rfl, rfl, rfl, ?_⟩, rfl⟩)
        rw [HS.out]; rfl
      · have hb : (h.type == 0) = false := by rw [beq_eq_false_iff_ne]; exact h0
        have HS : Hid (serviceB h.type = (h.type == 1)) := Lib.hid (by unfold serviceB; rw [Bool.eq_iff_iff]; simp [h0])
        clear h0
        go_wp2
        refine Met.intro (hJ _ _ ⟨⟨rfl, rfl, rfl, rfl, rfl, ?_⟩, rfl⟩)
        rw [HS.out]; rfl
    case rest3 =>
      rintro a W2 ⟨hst, rfl⟩
      clear c6 c7 HSZ
      go_upto_region 6 with fail
      have hat := HAT.out
      refine wp_cut (fun a' w' => MhSt C n 281474976710656 (serviceB h.type) a' ∧ a'.eval (.tmp 117) = .bool (h.longB n 281474976710656) ∧ w' = W2) ?rest4 ?first4
      case first4 =>
        intro J K' hJ hK
        refine wp_region_lit ?_
        refine mh_start hst rfl rfl rfl rfl rfl rfl rfl rfl rfl ?_
        clear hst; intro a' hst hu; clear a; rename Act => a
        refine mh_or hst 25 24 2 0 .lss _ (0) _ (by decide) hat.1 rfl (by decide) (by decide) (by decide) hu rfl rfl rfl rfl rfl rfl rfl rfl rfl rfl rfl rfl rfl (by simp) rfl rfl ?_
        clear hst hu; intro a' hst hu; clear a; rename Act => a
        refine mh_or hst 30 29 7 0 .gtr _ (65535) _ (by decide) hat.1 rfl (by decide) (by decide) (by decide) hu rfl rfl rfl rfl rfl rfl rfl rfl rfl rfl rfl rfl rfl (by simp) rfl rfl ?_
        clear hst hu; intro a' hst hu; clear a; rename Act => a
        refine mh_or hst 35 34 12 1 .lss _ (0) _ (by decide) hat.2.1 rfl (by decide) (by decide) (by decide) hu rfl rfl rfl rfl rfl rfl rfl rfl rfl rfl rfl rfl rfl (by simp) rfl rfl ?_
        clear hst hu; intro a' hst hu; clear a; rename Act => a
        refine mh_or hst 40 39 17 1 .gtr _ (65535) _ (by decide) hat.2.1 rfl (by decide) (by decide) (by decide) hu rfl rfl rfl rfl rfl rfl rfl rfl rfl rfl rfl rfl rfl (by simp) rfl rfl ?_
        clear hst hu; intro a' hst hu; clear a; rename Act => a
        refine mh_off hst hs 45 44 22 2 _ _ (by decide) hat.2.2.1 rfl (by decide) (by decide) (by decide) hu rfl rfl rfl rfl rfl rfl rfl rfl rfl rfl rfl rfl rfl rfl rfl rfl rfl rfl rfl rfl rfl ?_
        clear hst hu; intro a' hst hu; clear a; rename Act => a
        refine mh_or hst 52 51 29 2 .gtr _ (255) _ (by decide) hat.2.2.1 rfl (by decide) (by decide) (by decide) hu rfl rfl rfl rfl rfl rfl rfl rfl rfl rfl rfl rfl rfl (by simp) rfl rfl ?_
        clear hst hu; intro a' hst hu; clear a; rename Act => a
        refine mh_or hst 57 56 34 3 .lss _ (0) _ (by decide) hat.2.2.2.1 rfl (by decide) (by decide) (by decide) hu rfl rfl rfl rfl rfl rfl rfl rfl rfl rfl rfl rfl rfl (by simp) rfl rfl ?_
        clear hst hu; intro a' hst hu; clear a; rename Act => a
        refine mh_or hst 62 61 39 3 .gtr _ (15) _ (by decide) hat.2.2.2.1 rfl (by decide) (by decide) (by decide) hu rfl rfl rfl rfl rfl rfl rfl rfl rfl rfl rfl rfl rfl (by simp) rfl rfl ?_
        clear hst hu; intro a' hst hu; clear a; rename Act => a
        refine mh_or hst 67 66 44 4 .lss _ (0) _ (by decide) hat.2.2.2.2.1 rfl (by decide) (by decide) (by decide) hu rfl rfl rfl rfl rfl rfl rfl rfl rfl rfl rfl rfl rfl (by simp) rfl rfl ?_
        clear hst hu; intro a' hst hu; clear a; rename Act => a
        refine mh_or hst 72 71 49 4 .gtr _ (15) _ (by decide) hat.2.2.2.2.1 rfl (by decide) (by decide) (by decide) hu rfl rfl rfl rfl rfl rfl rfl rfl rfl rfl rfl rfl rfl (by simp) rfl rfl ?_
        clear hst hu; intro a' hst hu; clear a; rename Act => a
        refine mh_or hst 77 76 54 5 .lss _ (0) _ (by decide) hat.2.2.2.2.2.1 rfl (by decide) (by decide) (by decide) hu rfl rfl rfl rfl rfl rfl rfl rfl rfl rfl rfl rfl rfl (by simp) rfl rfl ?_
        clear hst hu; intro a' hst hu; clear a; rename Act => a
        refine mh_or hst 82 81 59 5 .gtr _ (65535) _ (by decide) hat.2.2.2.2.2.1 rfl (by decide) (by decide) (by decide) hu rfl rfl rfl rfl rfl rfl rfl rfl rfl rfl rfl rfl rfl (by simp) rfl rfl ?_
        clear hst hu; intro a' hst hu; clear a; rename Act => a
        refine mh_or64 hst 87 86 64 8 _ _ (by decide) hat.2.2.2.2.2.2.2.2.1 rfl (by decide) (by decide) (by decide) hu rfl rfl rfl rfl rfl rfl rfl rfl rfl rfl rfl rfl rfl rfl rfl rfl rfl rfl ?_
        clear hst hu; intro a' hst hu; clear a; rename Act => a
        refine mh_or64 hst 93 92 70 9 _ _ (by decide) hat.2.2.2.2.2.2.2.2.2.1 rfl (by decide) (by decide) (by decide) hu rfl rfl rfl rfl rfl rfl rfl rfl rfl rfl rfl rfl rfl rfl rfl rfl rfl rfl ?_
        clear hst hu; intro a' hst hu; clear a; rename Act => a
        refine mh_ack hst 99 98 76 81 _ _ _ _ hat.2.2.2.2.2.2.1 hat.2.2.2.2.2.2.2.2.2.1 (HHA.out _) rfl rfl (by decide) (by decide) (by decide) hu rfl rfl rfl rfl rfl rfl rfl rfl rfl rfl rfl rfl rfl rfl rfl rfl rfl rfl rfl rfl rfl rfl rfl rfl _ rfl rfl rfl rfl rfl rfl rfl rfl rfl ?_
        clear hst hu; intro a' hst hu; clear a; rename Act => a
        refine mh_service hst 110 109 87 90 _ _ hat.2.2.2.2.2.2.2.2.2.2.1 rfl rfl (by decide) (by decide) (by decide) hu rfl rfl rfl rfl rfl rfl rfl rfl rfl rfl rfl rfl rfl rfl rfl rfl rfl rfl rfl rfl rfl rfl rfl rfl ?_
        clear hst hu; intro a' hst hu
        exact hK _ _ (Met.intro (hJ _ _ ⟨hst, hu, rfl⟩))
      intro a2 w2 hh
      obtain ⟨hst2, hu2, hw2⟩ := hh
      obtain rfl : W2 = w2 := hw2.symm
      obtain ⟨f, hf⟩ : ∃ f : Nat → Value, f = fun i => a2.eval (.tmp i) := ⟨_, rfl⟩
      have e1 : f 1 = .pointer (some ⟨C, 0, none⟩) := by rw [hf]; exact hst2.p
      have e117 : f 117 = .bool (h.longB n 281474976710656) := by rw [hf]; exact hu2
      have hl : a2 = ⟨((List.range 138).map f).toArray, []⟩ := by rw [hf]; exact Fr.lit a2 138 hst2.size hst2.defers
      rw [show (List.range 138).map f = [f 0, f 1, f 2, f 3, f 4, f 5, f 6, f 7, f 8, f 9, f 10, f 11, f 12, f 13, f 14, f 15, f 16, f 17, f 18, f 19, f 20, f 21, f 22, f 23, f 24, f 25, f 26, f 27, f 28, f 29, f 30, f 31, f 32, f 33, f 34, f 35, f 36, f 37, f 38, f 39, f 40, f 41, f 42, f 43, f 44, f 45, f 46, f 47, f 48, f 49, f 50, f 51, f 52, f 53, f 54, f 55, f 56, f 57, f 58, f 59, f 60, f 61, f 62, f 63, f 64, f 65, f 66, f 67, f 68, f 69, f 70, f 71, f 72, f 73, f 74, f 75, f 76, f 77, f 78, f 79, f 80, f 81, f 82, f 83, f 84, f 85, f 86, f 87, f 88, f 89, f 90, f 91, f 92, f 93, f 94, f 95, f 96, f 97, f 98, f 99, f 100, f 101, f 102, f 103, f 104, f 105, f 106, f 107, f 108, f 109, f 110, f 111, f 112, f 113, f 114, f 115, f 116, f 117, f 118, f 119, f 120, f 121, f 122, f 123, f 124, f 125, f 126, f 127, f 128, f 129, f 130, f 131, f 132, f 133, f 134, f 135, f 136, f 137] from rfl, e1, e117] at hl
      rw [hl]
      clear hl e1 e117 hf hst2 hu2 hst
      have ME := mayB_long h n m HN.out (by rw [HX.out]; exact HMX.out)
      obtain rfl : m = 281474976710656 := HMX.out.symm
      obtain ⟨L, hL⟩ : ∃ L, h.longB n 281474976710656 = L := ⟨_, rfl⟩
      have hL2 : h.longB n ((281474976710656 : Nat) : Int) = L := hL
      rw [hL2] at ME
      rw [hL]
      have HM := Lib.hid ME
      clear ME hL hL2
      have c6 := hat.2.2.2.2.2.2.1
      have c11 := hat.2.2.2.2.2.2.2.2.2.2.2.1
      have c12 := hat.2.2.2.2.2.2.2.2.2.2.2.2.1
      have c13 := hat.2.2.2.2.2.2.2.2.2.2.2.2.2.1
      have c14 := hat.2.2.2.2.2.2.2.2.2.2.2.2.2.2
      clear hat HAT
      cases L
      · by_cases h7 : h.type = 7
        · have hb7 : (h.type != 7) = false := by rw [h7]; decide
          have H7 := Lib.hid h7; clear h7
          go_wp2
          all_goals go_ret
          all_goals exact ⟨M.ret_bool (by rw [HM.out, if_pos H7.out]; first | (simp [*]; done) | (simp [*]; omega)), HBEL.out⟩
        · have hb7 : (h.type != 7) = true := by rw [bne_iff_ne]; exact h7
          have H7 := Lib.hid h7; clear h7
          have he := fun w => eql3 h.i0 h.i1 h.i2 0 0 0 w
          obtain ⟨cb, hcb⟩ : ∃ cb, (h.code == 0) = cb := ⟨_, rfl⟩
          obtain ⟨ib, hib⟩ : ∃ ib, ((h.i0 : Int) == 0 && ((h.i1 : Int) == 0 && (h.i2 : Int) == 0)) = ib := ⟨_, rfl⟩
          rw [hcb, hib] at HM
          cases cb
          all_goals go_wp2
          all_goals go_ret
          all_goals exact ⟨M.ret_bool (by rw [HM.out, if_neg H7.out]; simp [*]), HBEL.out⟩
      · go_wp2
        go_ret
        exact ⟨M.ret_bool (by rw [HM.out]; rfl), HBEL.out⟩

theorem refMay_any (h : Hd) (w : World) :
    Calls Tryz.prog 8 #[h.val] w fun e w' => e = .returned (.bool h.mayB) ∧ Below w.heap.size w w' :=
  refMay_walk h w _ _ h.x rfl rfl rfl
end Go.Proofs.YtcdhllajdpalaaaGreatDoor
