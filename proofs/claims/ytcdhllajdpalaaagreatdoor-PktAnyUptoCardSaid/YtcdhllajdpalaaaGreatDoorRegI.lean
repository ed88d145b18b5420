/-
  A region that draws its order, walked by what each operation leaves: one obligation an operation, no way through the orders.
-/
import Derived.Test.YtcdhllajdpalaaaGreatDoorFrA
import Derived.Orders
namespace Go.Proofs.YtcdhllajdpalaaaGreatDoor
open Go
set_option linter.unusedVariables false
set_option linter.unusedSimpArgs false
namespace Rg
section
variable {P : Program} {ops : Array Oper} {Q : Exit → Act → World → Prop}

/-- What the walk asks of a region's text: an operation waits only for earlier ones, writes a slot of its own, has no guard. -/
def okAt (D : List Nat) (size i : Nat) (o : Oper) : Bool :=
  o.after.all (fun e => decide (e.on < i)) && (o.dst == some (D.getD i 0) || o.dst == none) && o.guard.isNone && decide (D.getD i 0 < size)
def okAll (D : List Nat) (size : Nat) : Nat → List Oper → Bool
  | _, [] => true
  | i, o :: os => okAt D size i o && okAll D size (i + 1) os
def ok (D : List Nat) (size : Nat) (ops : Array Oper) : Bool := okAll D size 0 ops.toList && decide (D.length = ops.size) && decide D.Nodup
theorem okAll_at {D : List Nat} {size : Nat} : ∀ (os : List Oper) (k : Nat), okAll D size k os = true → ∀ i o, os[i]? = some o → okAt D size (k + i) o = true
  | [], _, _, i, o, h => by simp at h
  | x :: os, k, hk, i, o, h => by
    have h2 : (okAt D size k x && okAll D size (k + 1) os) = true := hk
    rw [Bool.and_eq_true] at h2
    cases i with
    | zero => simp at h; subst h; exact h2.1
    | succ i =>
      have := okAll_at os (k + 1) h2.2 i o (by simpa using h)
      rwa [show k + 1 + i = k + (i + 1) by omega] at this

/-- What is asked of operation i. -/
def StepAt (P : Program) (Q : Exit → Act → World → Prop) (D : List Nat) (K : Nat → Value → World → Prop) (S : World → World → Prop) (a0 : Act) (w0 : World) (i : Nat) (o : Oper) : Prop :=
  ∀ (a : Act) (w : World), (∀ j, j ∉ D → a.eval (.tmp j) = a0.eval (.tmp j)) → S w0 w → (∀ e ∈ o.after, Region.binds .any e = true → K e.on (a.eval (.tmp (D.getD e.on 0))) w) →
    ∀ K' : Act → World → Prop, (∀ v w', S w w' → (∀ u, (o.dst = some (D.getD i 0) → u = v) → K i u w') → K' (a.put o.dst v) w') → Oper.wp P o a w K' Q
def Steps (P : Program) (Q : Exit → Act → World → Prop) (D : List Nat) (K : Nat → Value → World → Prop) (S : World → World → Prop) (a0 : Act) (w0 : World) : Nat → List Oper → Prop
  | _, [] => True
  | i, o :: os => StepAt P Q D K S a0 w0 i o ∧ Steps P Q D K S a0 w0 (i + 1) os
theorem Steps.at {D : List Nat} {K : Nat → Value → World → Prop} {S : World → World → Prop} {a0 : Act} {w0 : World} : ∀ (os : List Oper) (k : Nat), Steps P Q D K S a0 w0 k os → ∀ i o, os[i]? = some o → StepAt P Q D K S a0 w0 (k + i) o
  | [], _, _, i, o, h => by simp at h
  | x :: os, k, hk, i, o, h => by
    cases i with
    | zero => simp at h; subst h; exact hk.1
    | succ i =>
      have := Steps.at os (k + 1) hk.2 i o (by simpa using h)
      rwa [show k + 1 + i = k + (i + 1) by omega] at this

structure Inv (D : List Nat) (K : Nat → Value → World → Prop) (S : World → World → Prop) (a0 : Act) (w0 : World) (n : Nat) (listed : Array Bool) (a : Act) (w : World) : Prop where
  size : a.tmps.size = a0.tmps.size
  defers : a.defers = a0.defers
  slot : ∀ j, j ∉ D → a.eval (.tmp j) = a0.eval (.tmp j)
  s : S w0 w
  k : ∀ i, i < n → listed.getD i false = true → K i (a.eval (.tmp (D.getD i 0))) w

def todo (listed : Array Bool) : Nat := (listed.toList.filter (fun b => !b)).length
theorem todo_set (listed : Array Bool) (i : Nat) (h : listed.getD i true = false) : todo (listed.setIfInBounds i true) + 1 = todo listed := by
  unfold todo
  obtain ⟨l⟩ := listed
  simp only [List.setIfInBounds_toArray, Array.getD_eq_getD_getElem?, List.getElem?_toArray] at h ⊢
  induction l generalizing i with
  | nil => simp at h
  | cons b l ih =>
    cases i with
    | zero => simp at h; subst h; simp
    | succ i =>
      have := ih i (by simpa using h)
      simp only [List.set_cons_succ, List.filter_cons]
      cases b <;> simp at * <;> omega
theorem todo_zero (listed : Array Bool) (h : todo listed = 0) (i : Nat) : listed.getD i true = true := by
  unfold todo at h
  have h2 := List.eq_nil_of_length_eq_zero h
  rw [List.filter_eq_nil_iff] at h2
  rw [Array.getD_eq_getD_getElem?]
  cases hi : listed[i]? with
  | none => rfl
  | some b =>
    have := h2 b (by
      obtain ⟨hl, e⟩ := Array.getElem?_eq_some_iff.1 hi
      rw [← e]; exact Array.getElem_mem_toList hl)
    simpa using this

theorem mem_ready {md : Region.Mode} {listed : Array Bool} {i : Nat} (h : i ∈ Region.ready md ops listed) : i < ops.size ∧ listed.getD i true = false ∧ ∀ o, ops[i]? = some o → ∀ e ∈ o.after, Region.binds md e = true → listed.getD e.on false = true := by
  unfold Region.ready at h
  rw [List.mem_filter] at h
  obtain ⟨h1, h2⟩ := h
  rw [List.mem_range] at h1
  rw [Bool.and_eq_true] at h2
  refine ⟨h1, by simpa using h2.1, fun o ho e he hb => ?_⟩
  have h3 := h2.2
  rw [ho] at h3
  simp only [Option.map_some, Option.getD_some] at h3
  have h4 := Array.all_eq_true'.1 h3 e he
  rw [hb] at h4
  simpa using h4
theorem ready_mem {md : Region.Mode} {listed : Array Bool} {i : Nat} {o : Oper} (hi : ops[i]? = some o) (h1 : listed.getD i true = false) (h2 : ∀ e ∈ o.after, listed.getD e.on false = true) : i ∈ Region.ready md ops listed := by
  unfold Region.ready
  rw [List.mem_filter, List.mem_range]
  refine ⟨(Array.getElem?_eq_some_iff.1 hi).1, ?_⟩
  rw [hi, h1]
  simp only [Option.map_some, Option.getD_some, Bool.not_false, Bool.true_and]
  exact Array.all_eq_true'.2 (fun e he => by rw [h2 e he]; simp)

theorem getD_set {l : Array Bool} {i j : Nat} (h : (l.setIfInBounds i true).getD j false = true) : j = i ∨ l.getD j false = true := by
  by_cases e : j = i
  · exact .inl e
  · right
    rw [Array.getD_eq_getD_getElem?, Array.getElem?_setIfInBounds_ne (Ne.symm e)] at h
    rw [Array.getD_eq_getD_getElem?]; exact h

theorem any_inv {D : List Nat} {K : Nat → Value → World → Prop} {S : World → World → Prop} {a0 : Act} {w0 : World}
    (hok : ok D a0.tmps.size ops = true) (htr : ∀ x y z, S x y → S y z → S x z) (hK : ∀ i v x y, K i v x → S x y → K i v y)
    (steps : Steps P Q D K S a0 w0 0 ops.toList)
    (fin : ∀ a w, a.tmps.size = a0.tmps.size → a.defers = a0.defers → (∀ j, j ∉ D → a.eval (.tmp j) = a0.eval (.tmp j)) → S w0 w → (∀ i, i < ops.size → K i (a.eval (.tmp (D.getD i 0))) w) → Q .normal a w) :
    ∀ (fuel : Nat) (listed : Array Bool) (a : Act) (w : World), listed.size = ops.size → todo listed ≤ fuel → Inv D K S a0 w0 ops.size listed a w → wpAny P .any ops Q fuel listed a w := by
  unfold ok at hok
  rw [Bool.and_eq_true, Bool.and_eq_true, decide_eq_true_eq, decide_eq_true_eq] at hok
  obtain ⟨⟨hok, hlen⟩, hnd⟩ := hok
  have hat : ∀ i o, ops[i]? = some o → (∀ e ∈ o.after, e.on < i) ∧ (o.dst = some (D.getD i 0) ∨ o.dst = none) ∧ o.guard = none ∧ D.getD i 0 < a0.tmps.size := fun i o hi => by
    have h := okAll_at ops.toList 0 hok i o (by rw [← hi]; simp)
    rw [Nat.zero_add] at h
    unfold okAt at h
    simp only [Bool.and_eq_true, Bool.or_eq_true, decide_eq_true_eq, beq_iff_eq, Option.isNone_iff_eq_none] at h
    obtain ⟨⟨⟨h1, h2⟩, h3⟩, h4⟩ := h
    exact ⟨fun e he => by simpa using Array.all_eq_true'.1 h1 e he, h2, h3, h4⟩
  have hinj : ∀ i j, i < ops.size → j < ops.size → i ≠ j → D.getD i 0 ≠ D.getD j 0 := fun i j hi hj hne he => by
    rw [List.getD_eq_getElem?_getD, List.getD_eq_getElem?_getD, List.getElem?_eq_getElem (by omega), List.getElem?_eq_getElem (by omega)] at he
    have he2 : D[i]'(by omega) = D[j]'(by omega) := he
    have hp := List.pairwise_iff_getElem.1 hnd
    rcases Nat.lt_or_gt_of_ne hne with h | h
    · exact hp i j (by omega) (by omega) h he2
    · exact hp j i (by omega) (by omega) h he2.symm
  -- where nothing is ready all is done
  have hall : ∀ listed : Array Bool, listed.size = ops.size → Region.ready .any ops listed = [] → ∀ i, i < ops.size → listed.getD i false = true := fun listed hs hr i => by
    induction i using Nat.strongRecOn with
    | ind i ih =>
      intro hi
      cases hg : listed.getD i true with
      | true =>
        rw [Array.getD_eq_getD_getElem?, Array.getElem?_eq_getElem (by omega)] at hg ⊢
        exact hg
      | false =>
        have hio : ops[i]? = some ops[i] := Array.getElem?_eq_getElem hi
        have hm : i ∈ Region.ready .any ops listed := ready_mem hio hg (fun e he => ih e.on ((hat i _ hio).1 e he) (by have := (hat i _ hio).1 e he; omega))
        rw [hr] at hm; cases hm
  intro fuel
  induction fuel with
  | zero =>
    intro listed a w hs ht inv
    have hz := todo_zero listed (by omega)
    have hr : Region.ready .any ops listed = [] := by
      cases hrr : Region.ready .any ops listed with
      | nil => rfl
      | cons i rs =>
        have := (mem_ready (md := .any) (ops := ops) (listed := listed) (i := i) (by rw [hrr]; simp)).2.1
        rw [hz i] at this; cases this
    exact ⟨hr, fin a w inv.size inv.defers inv.slot inv.s (fun i hi => inv.k i hi (hall listed hs hr i hi))⟩
  | succ fuel ih =>
    intro listed a w hs ht inv
    refine ⟨fun hr => fin a w inv.size inv.defers inv.slot inv.s (fun i hi => inv.k i hi (hall listed hs hr i hi)), fun i hi => ?_⟩
    obtain ⟨h1, h2, h3⟩ := mem_ready hi
    have hio : ops[i]? = some ops[i] := Array.getElem?_eq_getElem h1
    obtain ⟨g1, g2, g3, g4⟩ := hat i _ hio
    have st := Steps.at ops.toList 0 steps i ops[i] (by rw [← hio]; simp)
    rw [Nat.zero_add] at st
    unfold wpOp
    rw [hio]
    simp only
    rw [if_pos (by rw [Fr.open_ g3])]
    refine .inl (st a w inv.slot inv.s (fun e he hb => inv.k e.on (by have := g1 e he; omega) (h3 _ hio e he hb)) _ (fun v w' hS hv => ?_))
    refine ih _ _ _ (by simpa using hs) (by have := todo_set listed i h2; omega) ?_
    rcases g2 with g2 | g2
    · rw [g2]
      refine ⟨by simp [Act.put, inv.size], by simp only [Act.put]; exact inv.defers, fun j hj => ?_, htr _ _ _ inv.s hS, fun j hj hl => ?_⟩
      · rw [Fr.put_other v (fun e => hj (by
          rw [e, List.getD_eq_getElem?_getD, List.getElem?_eq_getElem (by omega)]; exact List.getElem_mem _))]
        exact inv.slot j hj
      · rcases getD_set hl with rfl | hl
        · rw [Fr.put_same v (by rw [inv.size]; exact g4)]
          exact hv v (fun _ => rfl)
        · by_cases e : j = i
          · subst e
            rw [Fr.put_same v (by rw [inv.size]; exact g4)]
            exact hv v (fun _ => rfl)
          · rw [Fr.put_other v (hinj j i hj h1 e)]
            exact hK _ _ _ _ (inv.k j hj hl) hS
    · rw [g2]
      refine ⟨inv.size, inv.defers, inv.slot, htr _ _ _ inv.s hS, fun j hj hl => ?_⟩
      rcases getD_set hl with rfl | hl
      · exact hv _ (fun hd => by rw [g2] at hd; cases hd)
      · by_cases e : j = i
        · subst e; exact hv _ (fun hd => by rw [g2] at hd; cases hd)
        · exact hK _ _ _ _ (inv.k j hj hl) hS

/-- A region that draws its order. -/
theorem region {id : Nat} {a0 : Act} {w : World} (hm : P.follows .mixedOrders = true) (D : List Nat) (K : Nat → Value → World → Prop) (S : World → World → Prop)
    (hok : ok D a0.tmps.size ops = true) (hrf : S w.drew w.drew) (htr : ∀ x y z, S x y → S y z → S x z) (hK : ∀ i v x y, K i v x → S x y → K i v y)
    (steps : Steps P Q D K S a0 w.drew 0 ops.toList)
    (fin : ∀ a w', a.tmps.size = a0.tmps.size → a.defers = a0.defers → (∀ j, j ∉ D → a.eval (.tmp j) = a0.eval (.tmp j)) → S w.drew w' → (∀ i, i < ops.size → K i (a.eval (.tmp (D.getD i 0))) w') → Q .normal a w') :
    (Code.region id ops true).wp P Q a0 w := by
  refine wp_region_any hm ?_
  refine any_inv hok htr hK steps fin ops.size _ a0 w.drew (by simp) ?_ ⟨rfl, rfl, fun _ _ => rfl, hrf, fun i hi hl => ?_⟩
  · unfold todo; simp
  · simp [Array.getD_eq_getD_getElem?, Array.getElem?_replicate, hi] at hl

/-- An operation that gives a value, and turns the world so far. -/
theorem val {D : List Nat} {K : Nat → Value → World → Prop} {S : World → World → Prop} {i : Nat} {o : Oper} {a : Act} {w w' : World} {K' : Act → World → Prop} {v : Value}
    (hk : ∀ v w', S w w' → (∀ u, (o.dst = some (D.getD i 0) → u = v) → K i u w') → K' (a.put o.dst v) w') (hd : o.dst = some (D.getD i 0)) (hr : (execOp a.eval o).run P w = .ok (.value v) w') (hs : S w w') (h : K i v w') : Oper.wp P o a w K' Q := by
  unfold Oper.wp; rw [hr]
  exact hk v w' hs (fun u hu => by rw [hu hd]; exact h)
theorem call {D : List Nat} {K : Nat → Value → World → Prop} {S : World → World → Prop} {i : Nat} {o : Oper} {a : Act} {w : World} {K' : Act → World → Prop} {f : FuncId} {args : Array Value}
    (hk : ∀ v w', S w w' → (∀ u, (o.dst = some (D.getD i 0) → u = v) → K i u w') → K' (a.put o.dst v) w') (hd : o.dst = some (D.getD i 0)) (hr : (execOp a.eval o).run P w = .ok (.enter f args) w)
    (hc : Calls P f args w fun e w' => ∃ v, e = .returned v ∧ S w w' ∧ K i v w') : Oper.wp P o a w K' Q := by
  unfold Oper.wp; rw [hr]
  refine hc.mono ?_
  rintro e w' ⟨v, rfl, hs, h⟩
  exact hk v w' hs (fun u hu => by rw [hu hd]; exact h)
end
end Rg
end Go.Proofs.YtcdhllajdpalaaaGreatDoor
