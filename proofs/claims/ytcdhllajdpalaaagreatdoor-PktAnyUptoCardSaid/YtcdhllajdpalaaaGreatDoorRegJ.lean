/-
  A region that draws its order, walked by one relation between what is done, the slots and the world.
-/
import Derived.Test.YtcdhllajdpalaaaGreatDoorRegI
namespace Go.Proofs.YtcdhllajdpalaaaGreatDoor
open Go
set_option linter.unusedVariables false
set_option linter.unusedSimpArgs false
namespace Rg
section
variable {P : Program} {ops : Array Oper} {Q : Exit → Act → World → Prop}

/-- What is asked of operation i. -/
def StepJ (P : Program) (Q : Exit → Act → World → Prop) (D : List Nat) (I : (Nat → Bool) → (Nat → Value) → World → Prop) (a0 : Act) (i : Nat) (o : Oper) : Prop :=
  ∀ (L : Nat → Bool) (V : Nat → Value) (a : Act) (w : World), L i = false → (∀ e ∈ o.after, Region.binds .any e = true → L e.on = true) → (∀ j, j ∉ D → a.eval (.tmp j) = a0.eval (.tmp j)) → (∀ j, V j = a.eval (.tmp (D.getD j 0))) → I L V w →
    ∀ K' : Act → World → Prop, (∀ v w', (∀ V' : Nat → Value, (∀ j, L j = true → V' j = V j) → (o.dst = some (D.getD i 0) → V' i = v) → I (fun j => j == i || L j) V' w') → K' (a.put o.dst v) w') → Oper.wp P o a w K' Q
def StepsJ (P : Program) (Q : Exit → Act → World → Prop) (D : List Nat) (I : (Nat → Bool) → (Nat → Value) → World → Prop) (a0 : Act) : Nat → List Oper → Prop
  | _, [] => True
  | i, o :: os => StepJ P Q D I a0 i o ∧ StepsJ P Q D I a0 (i + 1) os
theorem StepsJ.at {D : List Nat} {I : (Nat → Bool) → (Nat → Value) → World → Prop} {a0 : Act} : ∀ (os : List Oper) (k : Nat), StepsJ P Q D I a0 k os → ∀ i o, os[i]? = some o → StepJ P Q D I a0 (k + i) o
  | [], _, _, i, o, h => by simp at h
  | x :: os, k, hk, i, o, h => by
    cases i with
    | zero => simp at h; subst h; exact hk.1
    | succ i =>
      have := StepsJ.at os (k + 1) hk.2 i o (by simpa using h)
      rwa [show k + 1 + i = k + (i + 1) by omega] at this

theorem listed_set {l : Array Bool} {i : Nat} (hi : i < l.size) : (fun j => (l.setIfInBounds i true).getD j false) = fun j => j == i || l.getD j false := by
  funext j
  by_cases e : j = i
  · subst e
    rw [Array.getD_eq_getD_getElem?, Array.getElem?_setIfInBounds_self_of_lt hi]; simp
  · rw [Array.getD_eq_getD_getElem?, Array.getElem?_setIfInBounds_ne (Ne.symm e), ← Array.getD_eq_getD_getElem?]
    simp [e]

structure InvJ (D : List Nat) (I : (Nat → Bool) → (Nat → Value) → World → Prop) (a0 : Act) (listed : Array Bool) (a : Act) (w : World) : Prop where
  size : a.tmps.size = a0.tmps.size
  defers : a.defers = a0.defers
  slot : ∀ j, j ∉ D → a.eval (.tmp j) = a0.eval (.tmp j)
  i : I (fun j => listed.getD j false) (fun j => a.eval (.tmp (D.getD j 0))) w

theorem any_invJ {D : List Nat} {I : (Nat → Bool) → (Nat → Value) → World → Prop} {a0 : Act}
    (hok : ok D a0.tmps.size ops = true)
    (steps : StepsJ P Q D I a0 0 ops.toList)
    (fin : ∀ a w L V, a.tmps.size = a0.tmps.size → a.defers = a0.defers → (∀ j, j ∉ D → a.eval (.tmp j) = a0.eval (.tmp j)) → (∀ i, i < ops.size → L i = true) → (∀ j, V j = a.eval (.tmp (D.getD j 0))) → I L V w → Q .normal a w) :
    ∀ (fuel : Nat) (listed : Array Bool) (a : Act) (w : World), listed.size = ops.size → todo listed ≤ fuel → InvJ D I a0 listed a w → wpAny P .any ops Q fuel listed a w := by
  unfold ok at hok
  rw [Bool.and_eq_true, Bool.and_eq_true, decide_eq_true_eq, decide_eq_true_eq] at hok
  obtain ⟨⟨hok, hlen⟩, hnd⟩ := hok
  have hat : ∀ i o, ops[i]? = some o → (∀ e ∈ o.after, e.on < i) ∧ (o.dst = some (D.getD i 0) ∨ o.dst = none) ∧ o.guard = none ∧ D.getD i 0 < a0.tmps.size := fun i o hi => by
    have h := okAll_at ops.toList 0 hok i o (by rw [← hi]; simp)
    rw [Nat.zero_add] at h
    unfold okAt at h
    simp only [Bool.and_eq_true, Bool.or_eq_true, decide_eq_true_eq, beq_iff_eq, Option.isNone_iff_eq_none] at h
    obtain ⟨⟨⟨h1, h2⟩, h3⟩, h4⟩ := h
    exact ⟨fun e he => by simpa using Array.all_eq_true'.1 h1 e he, h2, h3, h4⟩
  have hinj : ∀ i j, i < ops.size → j < ops.size → i ≠ j → D.getD i 0 ≠ D.getD j 0 := fun i j hi hj hne he => by
    rw [List.getD_eq_getElem?_getD, List.getD_eq_getElem?_getD, List.getElem?_eq_getElem (by omega), List.getElem?_eq_getElem (by omega)] at he
    have he2 : D[i]'(by omega) = D[j]'(by omega) := he
    have hp := List.pairwise_iff_getElem.1 hnd
    rcases Nat.lt_or_gt_of_ne hne with h | h
    · exact hp i j (by omega) (by omega) h he2
    · exact hp j i (by omega) (by omega) h he2.symm
  have hall : ∀ listed : Array Bool, listed.size = ops.size → Region.ready .any ops listed = [] → ∀ i, i < ops.size → listed.getD i false = true := fun listed hs hr i => by
    induction i using Nat.strongRecOn with
    | ind i ih =>
      intro hi
      cases hg : listed.getD i true with
      | true =>
        rw [Array.getD_eq_getD_getElem?, Array.getElem?_eq_getElem (by omega)] at hg ⊢
        exact hg
      | false =>
        have hio : ops[i]? = some ops[i] := Array.getElem?_eq_getElem hi
        have hm : i ∈ Region.ready .any ops listed := ready_mem hio hg (fun e he => ih e.on ((hat i _ hio).1 e he) (by have := (hat i _ hio).1 e he; omega))
        rw [hr] at hm; cases hm
  intro fuel
  induction fuel with
  | zero =>
    intro listed a w hs ht inv
    have hz := todo_zero listed (by omega)
    have hr : Region.ready .any ops listed = [] := by
      cases hrr : Region.ready .any ops listed with
      | nil => rfl
      | cons i rs =>
        have := (mem_ready (md := .any) (ops := ops) (listed := listed) (i := i) (by rw [hrr]; simp)).2.1
        rw [hz i] at this; cases this
    exact ⟨hr, fin a w _ _ inv.size inv.defers inv.slot (fun i hi => hall listed hs hr i hi) (fun _ => rfl) inv.i⟩
  | succ fuel ih =>
    intro listed a w hs ht inv
    refine ⟨fun hr => fin a w _ _ inv.size inv.defers inv.slot (fun i hi => hall listed hs hr i hi) (fun _ => rfl) inv.i, fun i hi => ?_⟩
    obtain ⟨h1, h2, h3⟩ := mem_ready hi
    have hio : ops[i]? = some ops[i] := Array.getElem?_eq_getElem h1
    obtain ⟨g1, g2, g3, g4⟩ := hat i _ hio
    have st := StepsJ.at ops.toList 0 steps i ops[i] (by rw [← hio]; simp)
    rw [Nat.zero_add] at st
    unfold wpOp
    rw [hio]
    simp only
    rw [if_pos (by rw [Fr.open_ g3])]
    have hlf : listed.getD i false = false := by
      rw [Array.getD_eq_getD_getElem?, Array.getElem?_eq_getElem (by omega)] at h2 ⊢
      exact h2
    refine .inl (st _ _ a w hlf (fun e he hb => h3 _ hio e he hb) inv.slot (fun _ => rfl) inv.i _ (fun v w' hv => ?_))
    refine ih _ _ _ (by simpa using hs) (by have := todo_set listed i h2; omega) ?_
    have hlt : ∀ j, listed.getD j false = true → j < ops.size := fun j hj => by
      rcases Nat.lt_or_ge j ops.size with h | h
      · exact h
      · rw [Array.getD_eq_getD_getElem?, Array.getElem?_eq_none (by omega)] at hj; cases hj
    rcases g2 with g2 | g2
    · rw [g2]
      refine ⟨by simp [Act.put, inv.size], by simp only [Act.put]; exact inv.defers, fun j hj => ?_, ?_⟩
      · rw [Fr.put_other v (fun e => hj (by
          rw [e, List.getD_eq_getElem?_getD, List.getElem?_eq_getElem (by omega)]; exact List.getElem_mem _))]
        exact inv.slot j hj
      · rw [listed_set (by omega)]
        refine hv _ (fun j hj => ?_) (fun _ => Fr.put_same v (by rw [inv.size]; exact g4))
        exact Fr.put_other v (hinj j i (hlt j hj) h1 (fun e => by subst e; rw [hlf] at hj; cases hj))
    · rw [g2]
      refine ⟨inv.size, inv.defers, inv.slot, ?_⟩
      rw [listed_set (by omega)]
      exact hv _ (fun j hj => rfl) (fun hd => by rw [g2] at hd; cases hd)

/-- A region that draws its order. -/
theorem regionJ {id : Nat} {a0 : Act} {w : World} (hm : P.follows .mixedOrders = true) (D : List Nat) (I : (Nat → Bool) → (Nat → Value) → World → Prop)
    (hok : ok D a0.tmps.size ops = true) (hI : ∀ V, I (fun _ => false) V w.drew)
    (steps : StepsJ P Q D I a0 0 ops.toList)
    (fin : ∀ a w' L V, a.tmps.size = a0.tmps.size → a.defers = a0.defers → (∀ j, j ∉ D → a.eval (.tmp j) = a0.eval (.tmp j)) → (∀ i, i < ops.size → L i = true) → (∀ j, V j = a.eval (.tmp (D.getD j 0))) → I L V w' → Q .normal a w') :
    (Code.region id ops true).wp P Q a0 w := by
  refine wp_region_any hm ?_
  refine any_invJ hok steps fin ops.size _ a0 w.drew (by simp) ?_ ⟨rfl, rfl, fun _ _ => rfl, ?_⟩
  · unfold todo; simp
  · have e : (fun j => (Array.replicate ops.size false).getD j false) = fun _ => false := by
      funext j
      rw [Array.getD_eq_getD_getElem?, Array.getElem?_replicate]
      split <;> rfl
    rw [e]
    exact hI _

/-- An operation that gives a value, and turns the world so far. -/
theorem valJ {o : Oper} {a : Act} {w w' : World} {K' : Act → World → Prop} {v : Value} {X : Value → World → Prop}
    (hk : ∀ v w', X v w' → K' (a.put o.dst v) w') (hr : (execOp a.eval o).run P w = .ok (.value v) w') (hx : X v w') : Oper.wp P o a w K' Q := by
  unfold Oper.wp; rw [hr]
  exact hk v w' hx
/-- The slots of D laid anew. -/
def puts (D : List Nat) (f : Nat → Value) (a : Act) : Act := D.foldl (fun a d => a.put (some d) (f d)) a
theorem puts_at (f : Nat → Value) : ∀ (D : List Nat) (a : Act), (puts D f a).tmps.size = a.tmps.size ∧ (puts D f a).defers = a.defers ∧ ∀ j, j < a.tmps.size → (puts D f a).tmps[j]? = if j ∈ D then some (f j) else a.tmps[j]?
  | [], a => ⟨rfl, rfl, fun j _ => by simp [puts]⟩
  | d :: D, a => by
    have e : puts (d :: D) f a = puts D f (a.put (some d) (f d)) := rfl
    obtain ⟨h1, h2, h3⟩ := puts_at f D (a.put (some d) (f d))
    have hs : (a.put (some d) (f d)).tmps.size = a.tmps.size := by simp [Act.put]
    rw [e]
    refine ⟨h1.trans hs, h2.trans (by simp only [Act.put]), fun j hj => ?_⟩
    rw [h3 j (by rw [hs]; exact hj)]
    by_cases hd : j ∈ D
    · simp [hd]
    · rw [if_neg hd]
      simp only [Act.put]
      by_cases hjd : j = d
      · subst hjd
        rw [Array.getElem?_setIfInBounds_self_of_lt hj]; simp
      · rw [Array.getElem?_setIfInBounds_ne (Ne.symm hjd), if_neg (by simp [hjd, hd])]
theorem puts_eq {D : List Nat} {a a0 : Act} (h1 : a.tmps.size = a0.tmps.size) (h2 : a.defers = a0.defers) (h3 : ∀ j, j ∉ D → a.eval (.tmp j) = a0.eval (.tmp j)) : a = puts D (fun j => a.eval (.tmp j)) a0 := by
  obtain ⟨p1, p2, p3⟩ := puts_at (fun j => a.eval (.tmp j)) D a0
  obtain ⟨t, ds⟩ := a
  generalize hq : puts D (fun j => Act.eval ⟨t, ds⟩ (.tmp j)) a0 = q at *
  obtain ⟨t2, ds2⟩ := q
  simp only at p1 p2 p3 h1 h2
  have : t = t2 := by
    apply Array.ext
    · omega
    · intro i hi1 hi2
      have h4 := p3 i (by omega)
      rw [Array.getElem?_eq_getElem hi2] at h4
      by_cases hd : i ∈ D
      · rw [if_pos hd] at h4
        have h5 := Option.some.inj h4
        rw [h5]
        simp [Act.eval, Array.getD, hi1]
      · rw [if_neg hd, Array.getElem?_eq_getElem (by omega)] at h4
        have h5 := Option.some.inj h4
        have h6 := h3 i hd
        simp [Act.eval, Array.getD, hi1] at h6
        rw [h5, h6, dif_pos (by omega)]
  subst this
  rw [h2, p2]
/-- A region that draws its order; behind it the slots of D hold what they may. -/
theorem regionP {id : Nat} {a0 : Act} {w : World} (hm : P.follows .mixedOrders = true) (D : List Nat) (I : (Nat → Bool) → (Nat → Value) → World → Prop)
    (hok : ok D a0.tmps.size ops = true) (hI : ∀ V, I (fun _ => false) V w.drew)
    (steps : StepsJ P Q D I a0 0 ops.toList)
    (fin : ∀ w' f L V, (∀ i, i < ops.size → L i = true) → I L V w' → Q .normal (puts D f a0) w') :
    (Code.region id ops true).wp P Q a0 w :=
  regionJ hm D I hok hI steps (fun a w' L V h1 h2 h3 h4 _ hi => by
    rw [puts_eq h1 h2 h3]
    exact fin w' _ L V h4 hi)
end
end Rg
end Go.Proofs.YtcdhllajdpalaaaGreatDoor
