/-
  Steps over a frame of which only a few slots are known: for regions of very many guarded operations.
-/
import Derived.WalkKit
import Derived.ProofKit
import Derived.BigGuard
namespace Go.Proofs.YtcdhllajdpalaaaGreatDoor
open Go
set_option linter.unusedVariables false
namespace Fr

theorem put_same {a : Act} {d : Nat} (v : Value) (h : d < a.tmps.size) : (a.put (some d) v).eval (.tmp d) = v := by
  simp [Act.put, Act.eval, Array.getD, h]
theorem put_other {a : Act} {d j : Nat} (v : Value) (h : j ≠ d) : (a.put (some d) v).eval (.tmp j) = a.eval (.tmp j) := by
  simp only [Act.put, Act.eval, Array.getD_eq_getD_getElem?]
  rw [Array.getElem?_setIfInBounds_ne (Ne.symm h)]

/-- The slots below n are as they were. -/
structure Kept (n : Nat) (a b : Act) : Prop where
  size : b.tmps.size = a.tmps.size
  defers : b.defers = a.defers
  slot : ∀ j, j < n → b.eval (.tmp j) = a.eval (.tmp j)
theorem Kept.refl (n : Nat) (a : Act) : Kept n a a := ⟨rfl, rfl, fun _ _ => rfl⟩
theorem Kept.put {n : Nat} {a b : Act} (h : Kept n a b) (d : Nat) (v : Value) (hd : n ≤ d) : Kept n a (b.put (some d) v) :=
  ⟨by rw [← h.size]; simp [Act.put], by rw [← h.defers]; rfl, fun j hj => by rw [put_other v (by omega)]; exact h.slot j hj⟩
theorem Kept.trans {n m : Nat} {a b c : Act} (h : Kept n a b) (k : Kept m b c) (hn : n ≤ m) : Kept n a c :=
  ⟨by rw [k.size, h.size], by rw [k.defers, h.defers], fun j hj => by rw [k.slot j (by omega), h.slot j hj]⟩

section
variable {P : Program} {ops : Array Oper} {Q : Exit → Act → World → Prop} {a : Act} {w : World} {rest : List Oper} {o : Oper}
theorem eval_at {s : Nat} {b : Bool} (hv : a.eval (.tmp s) = .bool b) : a.tmps[s]? = some (.bool b) := by
  simp only [Act.eval, Array.getD_eq_getD_getElem?] at hv
  cases h : a.tmps[s]? with
  | none => rw [h] at hv; simp [undef] at hv
  | some x => rw [h] at hv; simp at hv; rw [hv]
theorem yielded_bool {g s : Nat} {b : Bool} (hs : (ops[g]?).bind (·.dst) = some s) (hv : a.eval (.tmp s) = .bool b) : yielded ops a.tmps g = some b := by
  unfold yielded; rw [hs]; show (match a.tmps[s]? with | some (.bool b) => some b | _ => none) = some b
  rw [eval_at hv]
theorem yielded_undef {g s : Nat} (hs : (ops[g]?).bind (·.dst) = some s) (hv : a.eval (.tmp s) = undef) : yielded ops a.tmps g = none := by
  unfold yielded; rw [hs]; show (match a.tmps[s]? with | some (.bool b) => some b | _ => none) = none
  simp only [Act.eval, Array.getD_eq_getD_getElem?] at hv
  cases h : a.tmps[s]? with
  | none => rfl
  | some x => rw [h] at hv; simp at hv; rw [hv]; rfl
theorem open_ (hg : o.guard = none) : Region.wanted o (yielded ops a.tmps) = true := by unfold Region.wanted; rw [hg]
theorem yes {g s : Nat} {b : Bool} (hg : o.guard = some (g, b)) (hs : (ops[g]?).bind (·.dst) = some s) (hv : a.eval (.tmp s) = .bool b) : Region.wanted o (yielded ops a.tmps) = true := by
  unfold Region.wanted; rw [hg]; simp only [yielded_bool hs hv]; simp
theorem no {g s : Nat} {b : Bool} (hg : o.guard = some (g, b)) (hs : (ops[g]?).bind (·.dst) = some s) (hv : a.eval (.tmp s) = .bool (!b)) : Region.wanted o (yielded ops a.tmps) = false := by
  unfold Region.wanted; rw [hg]; simp only [yielded_bool hs hv]; cases b <;> rfl
theorem nor {g s : Nat} {b : Bool} (hg : o.guard = some (g, b)) (hs : (ops[g]?).bind (·.dst) = some s) (hv : a.eval (.tmp s) = undef) : Region.wanted o (yielded ops a.tmps) = false := by
  unfold Region.wanted; rw [hg]; simp only [yielded_undef hs hv]; rfl
/-- An operation that gives a value. -/
theorem val {v : Value} {d : Nat} (hd : o.dst = some d) (hw : Region.wanted o (yielded ops a.tmps) = true) (hr : (execOp a.eval o).run P w = .ok (.value v) w)
    (h : wpList P ops Q rest (a.put (some d) v) w) : wpList P ops Q (o :: rest) a w :=
  BigFrame.wpList_want hw fun K hK => by unfold Oper.wp; rw [hr]; show K (a.put o.dst v) w; rw [hd]; exact hK _ _ h
theorem skip {d : Nat} (hd : o.dst = some d) (hw : Region.wanted o (yielded ops a.tmps) = false)
    (h : wpList P ops Q rest (a.put (some d) undef) w) : wpList P ops Q (o :: rest) a w := wpList_skip hw (by rw [hd]; exact h)
theorem pick {c x y : Operand} {b : Bool} {d : Nat} (hd : o.dst = some d) (hw : Region.wanted o (yielded ops a.tmps) = true) (ho : o.op = .pick c x y) (hc : a.eval c = .bool b)
    (h : wpList P ops Q rest (a.put (some d) (if b = true then a.eval x else a.eval y)) w) : wpList P ops Q (o :: rest) a w :=
  val hd hw (by unfold execOp; rw [ho]; simp only [hc]; cases b <;> rfl) h
theorem move {x : Operand} {d : Nat} (hd : o.dst = some d) (hw : Region.wanted o (yielded ops a.tmps) = true) (ho : o.op = .move x)
    (h : wpList P ops Q rest (a.put (some d) (a.eval x)) w) : wpList P ops Q (o :: rest) a w :=
  val hd hw (by unfold execOp; rw [ho]; rfl) h
theorem assign {x : Operand} {d : Nat} (hd : o.dst = some d) (hw : Region.wanted o (yielded ops a.tmps) = true) (ho : o.op = .assign x)
    (h : wpList P ops Q rest (a.put (some d) (a.eval x)) w) : wpList P ops Q (o :: rest) a w :=
  val hd hw (by unfold execOp; rw [ho]; rfl) h

/-- The end of a member of an '||': what was before, or this one. -/
theorem orEnd {o1 o2 : Oper} {a0 : Act} {n s r d : Nat} {B b : Bool} (k : Kept n a0 a) (hd1 : o1.dst = some d) (hd2 : o2.dst = some (d + 1)) (hg1 : o1.guard = none) (hg2 : o2.guard = none)
    (h1 : o1.op = .pick (.tmp s) (.const (.bool true)) (.tmp r)) (h2 : o2.op = .move (.tmp d)) (hn : n ≤ d) (hz : d + 1 < a0.tmps.size)
    (hu : a.eval (.tmp s) = .bool B) (hr : B = false → a.eval (.tmp r) = .bool b)
    (h : ∀ a', Kept n a0 a' → a'.eval (.tmp (d + 1)) = .bool (B || b) → wpList P ops Q rest a' w) : wpList P ops Q (o1 :: o2 :: rest) a w := by
  have hz1 : d < a.tmps.size := by rw [k.size]; omega
  refine pick hd1 (open_ hg1) h1 hu ?_
  have e1 := put_same (a := a) (if B = true then a.eval (.const (.bool true)) else a.eval (.tmp r)) hz1
  have k1 := k.put d (if B = true then a.eval (.const (.bool true)) else a.eval (.tmp r)) hn
  have ev : (if B = true then a.eval (.const (.bool true)) else a.eval (.tmp r)) = .bool (B || b) := by
    cases B
    · rw [if_neg (by decide), hr rfl]; rfl
    · rw [if_pos rfl]; rfl
  rw [ev] at e1 k1 ⊢
  refine move hd2 (open_ hg2) h2 ?_
  rw [e1]
  exact h _ (k1.put (d + 1) _ (by omega)) (put_same _ (by rw [k1.size]; exact hz))

/-- A member of three operations. -/
theorem or3 {o1 o2 o3 o4 o5 : Oper} (d s g : Nat) (x1 x2 : Value) (b B : Bool)
    (hgs : (ops[g]?).bind (·.dst) = some s) (hsd : s < d) (hz : d + 4 < a.tmps.size) (hu : a.eval (.tmp s) = .bool B)
    (g1 : o1.guard = some (g, false)) (g2 : o2.guard = some (g, false)) (g3 : o3.guard = some (g, false)) (g4 : o4.guard = none) (g5 : o5.guard = none)
    (d1 : o1.dst = some d) (d2 : o2.dst = some (d + 1)) (d3 : o3.dst = some (d + 2)) (d4 : o4.dst = some (d + 3)) (d5 : o5.dst = some (d + 4))
    (h4 : o4.op = .pick (.tmp s) (.const (.bool true)) (.tmp (d + 2))) (h5 : o5.op = .move (.tmp (d + 3)))
    (r1 : ∀ a', Kept d a a' → (execOp a'.eval o1).run P w = .ok (.value x1) w)
    (r2 : ∀ a', a'.eval (.tmp d) = x1 → Kept d a a' → (execOp a'.eval o2).run P w = .ok (.value x2) w)
    (r3 : ∀ a', a'.eval (.tmp (d + 1)) = x2 → Kept d a a' → (execOp a'.eval o3).run P w = .ok (.value (.bool b)) w)
    (h : ∀ a', Kept d a a' → a'.eval (.tmp (d + 4)) = .bool (B || b) → wpList P ops Q rest a' w) :
    wpList P ops Q (o1 :: o2 :: o3 :: o4 :: o5 :: rest) a w := by
  have k0 := Kept.refl d a
  cases B
  · refine val d1 (yes g1 hgs hu) (r1 a k0) ?_
    have k1 := k0.put d x1 (Nat.le_refl _)
    have e1 := put_same (a := a) x1 (show d < a.tmps.size by omega)
    generalize a.put (some d) x1 = a1 at *
    refine val d2 (yes g2 hgs (by rw [k1.slot s hsd]; exact hu)) (r2 a1 e1 k1) ?_
    have k2 := k1.put (d + 1) x2 (by omega)
    have e2 := put_same (a := a1) x2 (show d + 1 < a1.tmps.size by rw [k1.size]; omega)
    generalize a1.put (some (d + 1)) x2 = a2 at *
    refine val d3 (yes g3 hgs (by rw [k2.slot s hsd]; exact hu)) (r3 a2 e2 k2) ?_
    have k3 := k2.put (d + 2) (.bool b) (by omega)
    have e3 := put_same (a := a2) (.bool b) (show d + 2 < a2.tmps.size by rw [k2.size]; omega)
    generalize a2.put (some (d + 2)) (.bool b) = a3 at *
    exact orEnd k3 d4 d5 g4 g5 h4 h5 (by omega) hz (by rw [k3.slot s hsd]; exact hu) (fun _ => e3) h
  · have k1 := k0.put d undef (Nat.le_refl _)
    have k2 := k1.put (d + 1) undef (by omega)
    have k3 := k2.put (d + 2) undef (by omega)
    refine skip d1 (no g1 hgs hu) ?_
    refine skip d2 (no g2 hgs (by rw [k1.slot s hsd]; exact hu)) ?_
    refine skip d3 (no g3 hgs (by rw [k2.slot s hsd]; exact hu)) ?_
    exact orEnd (b := b) k3 d4 d5 g4 g5 h4 h5 (by omega) hz (by rw [k3.slot s hsd]; exact hu) (fun hB => by cases hB) h
/-- A member of four operations. -/
theorem or4 {o1 o2 o3 o4 o5 o6 : Oper} (d s g : Nat) (x1 x2 x3 : Value) (b B : Bool)
    (hgs : (ops[g]?).bind (·.dst) = some s) (hsd : s < d) (hz : d + 5 < a.tmps.size) (hu : a.eval (.tmp s) = .bool B)
    (g1 : o1.guard = some (g, false)) (g2 : o2.guard = some (g, false)) (g3 : o3.guard = some (g, false)) (g4 : o4.guard = some (g, false)) (g5 : o5.guard = none) (g6 : o6.guard = none)
    (d1 : o1.dst = some d) (d2 : o2.dst = some (d + 1)) (d3 : o3.dst = some (d + 2)) (d4 : o4.dst = some (d + 3)) (d5 : o5.dst = some (d + 4)) (d6 : o6.dst = some (d + 5))
    (h5 : o5.op = .pick (.tmp s) (.const (.bool true)) (.tmp (d + 3))) (h6 : o6.op = .move (.tmp (d + 4)))
    (r1 : ∀ a', Kept d a a' → (execOp a'.eval o1).run P w = .ok (.value x1) w)
    (r2 : ∀ a', a'.eval (.tmp d) = x1 → Kept d a a' → (execOp a'.eval o2).run P w = .ok (.value x2) w)
    (r3 : ∀ a', Kept d a a' → (execOp a'.eval o3).run P w = .ok (.value x3) w)
    (r4 : ∀ a', a'.eval (.tmp (d + 1)) = x2 → a'.eval (.tmp (d + 2)) = x3 → Kept d a a' → (execOp a'.eval o4).run P w = .ok (.value (.bool b)) w)
    (h : ∀ a', Kept d a a' → a'.eval (.tmp (d + 5)) = .bool (B || b) → wpList P ops Q rest a' w) :
    wpList P ops Q (o1 :: o2 :: o3 :: o4 :: o5 :: o6 :: rest) a w := by
  have k0 := Kept.refl d a
  cases B
  · refine val d1 (yes g1 hgs hu) (r1 a k0) ?_
    have k1 := k0.put d x1 (Nat.le_refl _)
    have e1 := put_same (a := a) x1 (show d < a.tmps.size by omega)
    generalize a.put (some d) x1 = a1 at *
    refine val d2 (yes g2 hgs (by rw [k1.slot s hsd]; exact hu)) (r2 a1 e1 k1) ?_
    have k2 := k1.put (d + 1) x2 (by omega)
    have e2 := put_same (a := a1) x2 (show d + 1 < a1.tmps.size by rw [k1.size]; omega)
    generalize a1.put (some (d + 1)) x2 = a2 at *
    refine val d3 (yes g3 hgs (by rw [k2.slot s hsd]; exact hu)) (r3 a2 k2) ?_
    have k3 := k2.put (d + 2) x3 (by omega)
    have e3 := put_same (a := a2) x3 (show d + 2 < a2.tmps.size by rw [k2.size]; omega)
    have e23 := (put_other (a := a2) (d := d + 2) (j := d + 1) x3 (by omega)).trans e2
    generalize a2.put (some (d + 2)) x3 = a3 at *
    refine val d4 (yes g4 hgs (by rw [k3.slot s hsd]; exact hu)) (r4 a3 e23 e3 k3) ?_
    have k4 := k3.put (d + 3) (.bool b) (by omega)
    have e4 := put_same (a := a3) (.bool b) (show d + 3 < a3.tmps.size by rw [k3.size]; omega)
    generalize a3.put (some (d + 3)) (.bool b) = a4 at *
    exact orEnd k4 d5 d6 g5 g6 h5 h6 (by omega) hz (by rw [k4.slot s hsd]; exact hu) (fun _ => e4) h
  · have k1 := k0.put d undef (Nat.le_refl _)
    have k2 := k1.put (d + 1) undef (by omega)
    have k3 := k2.put (d + 2) undef (by omega)
    have k4 := k3.put (d + 3) undef (by omega)
    refine skip d1 (no g1 hgs hu) ?_
    refine skip d2 (no g2 hgs (by rw [k1.slot s hsd]; exact hu)) ?_
    refine skip d3 (no g3 hgs (by rw [k2.slot s hsd]; exact hu)) ?_
    refine skip d4 (no g4 hgs (by rw [k3.slot s hsd]; exact hu)) ?_
    exact orEnd (b := b) k4 d5 d6 g5 g6 h5 h6 (by omega) hz (by rw [k4.slot s hsd]; exact hu) (fun hB => by cases hB) h
/-- A member of five operations. -/
theorem or5 {o1 o2 o3 o4 o5 o6 o7 : Oper} (d s g : Nat) (x1 x2 x3 x4 : Value) (b B : Bool)
    (hgs : (ops[g]?).bind (·.dst) = some s) (hsd : s < d) (hz : d + 6 < a.tmps.size) (hu : a.eval (.tmp s) = .bool B)
    (g1 : o1.guard = some (g, false)) (g2 : o2.guard = some (g, false)) (g3 : o3.guard = some (g, false)) (g4 : o4.guard = some (g, false)) (g5 : o5.guard = some (g, false)) (g6 : o6.guard = none) (g7 : o7.guard = none)
    (d1 : o1.dst = some d) (d2 : o2.dst = some (d + 1)) (d3 : o3.dst = some (d + 2)) (d4 : o4.dst = some (d + 3)) (d5 : o5.dst = some (d + 4)) (d6 : o6.dst = some (d + 5)) (d7 : o7.dst = some (d + 6))
    (h6 : o6.op = .pick (.tmp s) (.const (.bool true)) (.tmp (d + 4))) (h7 : o7.op = .move (.tmp (d + 5)))
    (r1 : ∀ a', Kept d a a' → (execOp a'.eval o1).run P w = .ok (.value x1) w)
    (r2 : ∀ a', a'.eval (.tmp d) = x1 → Kept d a a' → (execOp a'.eval o2).run P w = .ok (.value x2) w)
    (r3 : ∀ a', Kept d a a' → (execOp a'.eval o3).run P w = .ok (.value x3) w)
    (r4 : ∀ a', a'.eval (.tmp (d + 2)) = x3 → Kept d a a' → (execOp a'.eval o4).run P w = .ok (.value x4) w)
    (r5 : ∀ a', a'.eval (.tmp (d + 1)) = x2 → a'.eval (.tmp (d + 3)) = x4 → Kept d a a' → (execOp a'.eval o5).run P w = .ok (.value (.bool b)) w)
    (h : ∀ a', Kept d a a' → a'.eval (.tmp (d + 6)) = .bool (B || b) → wpList P ops Q rest a' w) :
    wpList P ops Q (o1 :: o2 :: o3 :: o4 :: o5 :: o6 :: o7 :: rest) a w := by
  have k0 := Kept.refl d a
  cases B
  · refine val d1 (yes g1 hgs hu) (r1 a k0) ?_
    have k1 := k0.put d x1 (Nat.le_refl _)
    have e1 := put_same (a := a) x1 (show d < a.tmps.size by omega)
    generalize a.put (some d) x1 = a1 at *
    refine val d2 (yes g2 hgs (by rw [k1.slot s hsd]; exact hu)) (r2 a1 e1 k1) ?_
    have k2 := k1.put (d + 1) x2 (by omega)
    have e2 := put_same (a := a1) x2 (show d + 1 < a1.tmps.size by rw [k1.size]; omega)
    generalize a1.put (some (d + 1)) x2 = a2 at *
    refine val d3 (yes g3 hgs (by rw [k2.slot s hsd]; exact hu)) (r3 a2 k2) ?_
    have k3 := k2.put (d + 2) x3 (by omega)
    have e3 := put_same (a := a2) x3 (show d + 2 < a2.tmps.size by rw [k2.size]; omega)
    have e23 := (put_other (a := a2) (d := d + 2) (j := d + 1) x3 (by omega)).trans e2
    generalize a2.put (some (d + 2)) x3 = a3 at *
    refine val d4 (yes g4 hgs (by rw [k3.slot s hsd]; exact hu)) (r4 a3 e3 k3) ?_
    have k4 := k3.put (d + 3) x4 (by omega)
    have e4 := put_same (a := a3) x4 (show d + 3 < a3.tmps.size by rw [k3.size]; omega)
    have e24 := (put_other (a := a3) (d := d + 3) (j := d + 1) x4 (by omega)).trans e23
    generalize a3.put (some (d + 3)) x4 = a4 at *
    refine val d5 (yes g5 hgs (by rw [k4.slot s hsd]; exact hu)) (r5 a4 e24 e4 k4) ?_
    have k5 := k4.put (d + 4) (.bool b) (by omega)
    have e5 := put_same (a := a4) (.bool b) (show d + 4 < a4.tmps.size by rw [k4.size]; omega)
    generalize a4.put (some (d + 4)) (.bool b) = a5 at *
    exact orEnd k5 d6 d7 g6 g7 h6 h7 (by omega) hz (by rw [k5.slot s hsd]; exact hu) (fun _ => e5) h
  · have k1 := k0.put d undef (Nat.le_refl _)
    have k2 := k1.put (d + 1) undef (by omega)
    have k3 := k2.put (d + 2) undef (by omega)
    have k4 := k3.put (d + 3) undef (by omega)
    have k5 := k4.put (d + 4) undef (by omega)
    refine skip d1 (no g1 hgs hu) ?_
    refine skip d2 (no g2 hgs (by rw [k1.slot s hsd]; exact hu)) ?_
    refine skip d3 (no g3 hgs (by rw [k2.slot s hsd]; exact hu)) ?_
    refine skip d4 (no g4 hgs (by rw [k3.slot s hsd]; exact hu)) ?_
    refine skip d5 (no g5 hgs (by rw [k4.slot s hsd]; exact hu)) ?_
    exact orEnd (b := b) k5 d6 d7 g6 g7 h6 h7 (by omega) hz (by rw [k5.slot s hsd]; exact hu) (fun hB => by cases hB) h
end
end Fr
end Go.Proofs.YtcdhllajdpalaaaGreatDoor
namespace Go.Proofs.YtcdhllajdpalaaaGreatDoor
open Go
namespace Fr
section
variable {P : Program} {ops : Array Oper} {Q : Exit → Act → World → Prop} {a : Act} {w : World} {rest : List Oper} {o : Oper}
/-- A call that turns nothing. -/
theorem call {f : FuncId} {args : Array Value} {v : Value} {d : Nat} (hd : o.dst = some d) (hw : Region.wanted o (yielded ops a.tmps) = true) (hr : (execOp a.eval o).run P w = .ok (.enter f args) w)
    (hc : Calls P f args w fun e w' => e = .returned v ∧ w = w') (h : wpList P ops Q rest (a.put (some d) v) w) : wpList P ops Q (o :: rest) a w :=
  BigFrame.wpList_want hw fun K hK => by
    unfold Oper.wp; rw [hr]
    refine hc.mono ?_
    rintro e w' ⟨rfl, rfl⟩
    show K (a.put o.dst v) w
    rw [hd]; exact hK _ _ h
/-- A frame of so many slots, written out. -/
theorem lit (a : Act) (n : Nat) (h : a.tmps.size = n) (hd : a.defers = []) : a = ⟨((List.range n).map fun i => a.eval (.tmp i)).toArray, []⟩ := by
  obtain ⟨t, d⟩ := a
  obtain rfl : d = [] := hd
  have : t = ((List.range n).map fun i => Act.eval ⟨t, []⟩ (.tmp i)).toArray := by
    apply Array.ext
    · simpa using h
    · intro i h1 h2
      simp [Act.eval, Array.getD, h1]
  rw [← this]
end
end Fr
end Go.Proofs.YtcdhllajdpalaaaGreatDoor
