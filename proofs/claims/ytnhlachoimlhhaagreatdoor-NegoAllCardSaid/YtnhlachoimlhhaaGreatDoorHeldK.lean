/-
  A drawn region step by step: operations whose guard says no, and such as only compute, taken by what the kernel reckons of them.
-/
import Derived.Deep.RegionHeld3
namespace Go.Proofs.YtnhlachoimlhhaaGreatDoor
set_option linter.unusedVariables false

/-- An operation whose guard says no. -/
theorem wpAnyH_skipK {P : Program} {md : Region.Mode} {ops : Array Oper} {Q : Exit → Act → World → Prop} {S : World → Prop} {i d : Nat} {fuel : Nat} {listed : Array Bool} {a : Act} {w : World}
    (hk : (ops[i]?).map (fun o => (o.dst, Region.wanted o (yielded ops a.tmps))) = some (some d, false))
    (hs : Region.noSelect ops = true) (hf : Region.free md ops listed i = true) (hr : (Region.ready md ops listed).contains i = true)
    (hQ : ∀ c a w, Q (.panic c) (a.put (some d) undef) w → Q (.panic c) a w) (hS : S w)
    (h : wpAnyH P md ops Q S fuel (listed.setIfInBounds i true) (a.put (some d) undef) w) : wpAnyH P md ops Q S (fuel + 1) listed a w := by
  cases ho : ops[i]? with
  | none => rw [ho] at hk; cases hk
  | some o =>
    rw [ho] at hk
    injection hk with hk
    injection hk with h1 h2
    rw [← h1] at h hQ
    exact wpAnyH_take ho hs hf hr hQ (.inr ⟨h2, rfl⟩) hS h
/-- An operation that computes v in whatever world meets S. -/
theorem wpAnyH_takeK {P : Program} {md : Region.Mode} {ops : Array Oper} {Q : Exit → Act → World → Prop} {S : World → Prop} {i d : Nat} (op : Op) (v : Value) {fuel : Nat} {listed : Array Bool} {a : Act} {w : World}
    (hk : (ops[i]?).map (fun o => (o.dst, o.op, Region.wanted o (yielded ops a.tmps))) = some (some d, op, true))
    (hs : Region.noSelect ops = true) (hf : Region.free md ops listed i = true) (hr : (Region.ready md ops listed).contains i = true)
    (hQ : ∀ c a w, Q (.panic c) (a.put (some d) v) w → Q (.panic c) a w)
    (hy : ∀ o : Oper, o.op = op → ∀ w, S w → (execOp a.eval o).run P w = .ok (.value v) w) (hS : S w)
    (h : wpAnyH P md ops Q S fuel (listed.setIfInBounds i true) (a.put (some d) v) w) : wpAnyH P md ops Q S (fuel + 1) listed a w := by
  cases ho : ops[i]? with
  | none => rw [ho] at hk; cases hk
  | some o =>
    rw [ho] at hk
    injection hk with hk
    injection hk with h1 h2
    injection h2 with h2 h3
    rw [← h1] at h hQ
    exact wpAnyH_take ho hs hf hr hQ (.inl ⟨h3, hy o h2⟩) hS h
end Go.Proofs.YtnhlachoimlhhaaGreatDoor
