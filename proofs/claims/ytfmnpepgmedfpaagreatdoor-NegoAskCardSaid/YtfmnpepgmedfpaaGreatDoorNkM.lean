/-
  The law NegoAsk: what is asked for (pure); a map of the law's own from ints to bools.
-/
import Derived.Test.YtfmnpepgmedfpaaGreatDoorNgZ
import Derived.Maps.Own
import Derived.Maps.OwnSet
import Derived.Maps.Views
namespace Go.Proofs.YtfmnpepgmedfpaaGreatDoor
open Go.ChangeShapes Go.WideShapes Go.ChangeAt Go.RowKit
set_option linter.unusedVariables false
set_option linter.unusedSimpArgs false

/-- One more. -/
def nkAdd (ks : Int → Bool) (f : Int) : Int → Bool := fun g => if g = f then true else ks g
/-- One side that asks for the defaults of these. -/
def nkS (ks : Int → Bool) : NgS := { ngInit false with want := fun f => if ks f = true then ftDefault f else [] }
theorem nkS_none : nkS (fun _ => false) = ngInit false := rfl
theorem nkS_add (ks : Int → Bool) (f : Int) : ({ nkS ks with want := upd (nkS ks).want f (ftDefault f) } : NgS) = nkS (nkAdd ks f) := by
  have e : upd (nkS ks).want f (ftDefault f) = (nkS (nkAdd ks f)).want := by
    funext g
    unfold upd
    show (if g = f then ftDefault f else if ks g = true then ftDefault g else []) = if (if g = f then true else ks g) = true then ftDefault g else []
    by_cases h : g = f
    · rw [if_pos h, if_pos h, if_pos rfl, h]
    · rw [if_neg h, if_neg h]
  rw [e]
  rfl
/-- The features in their order. -/
def nkF (j : Nat) : Nat := if j = 0 then 1 else if j = 1 then 3 else if j = 2 then 6 else 8
def nkO (f : Nat) : M.Opt := ⟨32, UInt8.ofNat f :: ftDefault (f : Int)⟩
def nkTo (ks : Int → Bool) : Nat → List M.Opt
  | 0 => []
  | j + 1 => nkTo ks j ++ if ks (nkF j : Int) = true then [nkO (nkF j)] else []
theorem ftDefault_may (f : Int) (h : f = 1 ∨ f = 3 ∨ f = 6 ∨ f = 8) : ftMay f (ftDefault f) = true := by
  rcases h with rfl | rfl | rfl | rfl <;> decide +kernel
theorem ftDefault_ne (f : Int) (h : f = 1 ∨ f = 3 ∨ f = 6 ∨ f = 8) : ftDefault f ≠ [] := fun e => by
  have := (ftMay_len (ftDefault_may f h)).2
  rw [e] at this
  simp at this
theorem nk_asks (ks : Int → Bool) : (nkS ks).asks = nkTo ks 4 := by
  have h : ∀ f : UInt8, ((f.toNat : Int) = 1 ∨ (f.toNat : Int) = 3 ∨ (f.toNat : Int) = 6 ∨ (f.toNat : Int) = 8) → (nkS ks).ask f = if ks (f.toNat : Int) = true then [nkO f.toNat] else [] := fun f hf => by
    unfold NgS.ask
    have hw : (nkS ks).want (f.toNat : Int) = if ks (f.toNat : Int) = true then ftDefault (f.toNat : Int) else [] := rfl
    rw [hw]
    by_cases hk : ks (f.toNat : Int) = true
    · rw [if_pos hk, if_pos hk, if_neg (ftDefault_ne _ hf)]
      unfold nkO
      simp
    · rw [if_neg hk, if_neg hk, if_pos rfl]
  unfold NgS.asks
  rw [h 1 (by decide), h 3 (by decide), h 6 (by decide), h 8 (by decide)]
  show _ = ((([] ++ if ks 1 = true then [nkO 1] else []) ++ if ks 3 = true then [nkO 3] else []) ++ if ks 6 = true then [nkO 6] else []) ++ if ks 8 = true then [nkO 8] else []
  rw [List.nil_append]
  rfl
theorem nkTo_len (ks : Int → Bool) (j : Nat) : (nkTo ks j).length ≤ j := by
  induction j with
  | zero => simp [nkTo]
  | succ j ih =>
    unfold nkTo
    rw [List.length_append]
    split
    · simp; omega
    · simp; omega
theorem nkTo_pre (ks : Int → Bool) (j : Nat) : ∀ i, j ≤ i → ∃ t, nkTo ks i = nkTo ks j ++ t
  | 0, h => by
    obtain rfl : j = 0 := by omega
    exact ⟨[], by simp⟩
  | i + 1, h => by
    by_cases e : j = i + 1
    · exact ⟨[], by rw [e]; simp⟩
    · obtain ⟨t, ht⟩ := nkTo_pre ks j i (by omega)
      exact ⟨_, by rw [nkTo, ht, List.append_assoc]⟩
theorem nkTo_at (ks : Int → Bool) (j : Nat) (hj : j < 4) (hk : ks (nkF j : Int) = true) : (nkTo ks j).length < (nkTo ks 4).length ∧ (nkTo ks 4).getD (nkTo ks j).length ⟨0, []⟩ = nkO (nkF j) := by
  obtain ⟨t, ht⟩ := nkTo_pre ks (j + 1) 4 (by omega)
  have e : nkTo ks (j + 1) = nkTo ks j ++ [nkO (nkF j)] := by rw [nkTo, if_pos hk]
  rw [ht, e]
  constructor
  · simp
  · rw [List.getD_eq_getElem?_getD, List.append_assoc, List.getElem?_append_right (Nat.le_refl _)]
    simp
theorem nk_done (ks : Int → Bool) : (nkS ks).done = decide ((nkTo ks 4).length = 0) := by
  have h : ∀ f : Int, (f = 1 ∨ f = 3 ∨ f = 6 ∨ f = 8) → decide ((nkS ks).want f = []) = !ks f := fun f hf => by
    show decide ((if ks f = true then ftDefault f else []) = []) = !ks f
    cases hk : ks f with
    | true => rw [if_pos rfl, decide_eq_false (ftDefault_ne f hf)]; rfl
    | false => rw [if_neg (by decide)]; rfl
  unfold NgS.done
  rw [h 1 (by decide), h 3 (by decide), h 6 (by decide), h 8 (by decide)]
  show _ = decide ((((([] ++ if ks 1 = true then [nkO 1] else []) ++ if ks 3 = true then [nkO 3] else []) ++ if ks 6 = true then [nkO 6] else []) ++ if ks 8 = true then [nkO 8] else []).length = 0)
  cases ks 1 <;> cases ks 3 <;> cases ks 6 <;> cases ks 8 <;> rfl
theorem nk_add_len (ks : Int → Bool) (f : Int) (hf : f = 1 ∨ f = 3 ∨ f = 6 ∨ f = 8) : (nkTo (nkAdd ks f) 4).length = if ks f = true then (nkTo ks 4).length else (nkTo ks 4).length + 1 := by
  have e : ∀ ks : Int → Bool, (nkTo ks 4).length = ((((([] ++ if ks 1 = true then [nkO 1] else []) ++ if ks 3 = true then [nkO 3] else []) ++ if ks 6 = true then [nkO 6] else []) ++ if ks 8 = true then [nkO 8] else []).length) := fun _ => rfl
  rw [e, e]
  unfold nkAdd
  rcases hf with rfl | rfl | rfl | rfl
  all_goals
    simp only [if_true, if_pos, show ¬ ((1 : Int) = 3) by decide, show ¬ ((1 : Int) = 6) by decide, show ¬ ((1 : Int) = 8) by decide, show ¬ ((3 : Int) = 1) by decide, show ¬ ((3 : Int) = 6) by decide, show ¬ ((3 : Int) = 8) by decide, show ¬ ((6 : Int) = 1) by decide, show ¬ ((6 : Int) = 3) by decide, show ¬ ((6 : Int) = 8) by decide, show ¬ ((8 : Int) = 1) by decide, show ¬ ((8 : Int) = 3) by decide, show ¬ ((8 : Int) = 6) by decide, if_false]
    cases ks 1 <;> cases ks 3 <;> cases ks 6 <;> cases ks 8 <;> rfl
/-- Hearing of an ask of the other one's own. -/
theorem nk_hear (ks : Int → Bool) : (nkS ks).take1 [] ⟨34, [8, 1]⟩ false = ⟨true, nkS ks, [⟨33, [8]⟩]⟩ := rfl

/-- The map reads so, and holds so many. -/
def MapA (ks : Int → Bool) (n cnt b : Nat) (w : World) : Prop := ∃ D : DataW Unit, w.ownsMap Tryz.prog 3 (plainElem Tryz.prog 4) b cnt D ∧ Go.Maps.Tidy D ∧ (∀ x : Int, D.atKey (.int .i64 x) (.lit (.bool false)) = .lit (.bool (ks x))) ∧ (∀ x : Int, Go.Maps.has D (.int .i64 x) = ks x) ∧ Go.Maps.size D = n
theorem keyedInt : Go.Maps.Keyed Tryz.prog 3 := Go.Maps.int_keyed Tryz.underlying3
theorem keyInt (x : Int) (h1 : 0 ≤ x) (h2 : x ≤ 1000) : keyOf Tryz.prog 3 (.int .i64 x) = some (.int .i64 x) := by
  have hw : (Lit.int .i64 x).wf = true := by first | exact WalkArith.wf_i64 (by omega) | (simp [Lit.wf]; omega)
  first | exact keyOf_int_mk Tryz.underlying3 hw | exact Go.Maps.keyOf_int_mk Tryz.underlying3 hw
theorem zeroBoolA (w : World) : (zeroValue 4).run Tryz.prog w = .ok (.bool false) w := by kernel_rfl
theorem plainBoolA (x : Bool) : plainElem (H := Unit) Tryz.prog 4 (.bool x) = some (.lit (.bool x), []) := plainElem_bool Tryz.underlying4 x
theorem MapA.kept {ks : Int → Bool} {n cnt b : Nat} {S : List Nat} {w w' : World} (h : MapA ks n cnt b w) (k : Kept S w w') (hb : b ∉ S) : MapA ks n cnt b w' := by
  obtain ⟨D, h1, h2⟩ := h
  have hlt := h1.lt
  obtain ⟨es, clock, e1, F, hs, hD⟩ := h1
  exact ⟨D, ⟨es, clock, (k.block b hlt hb).trans e1, F, hs, hD⟩, h2⟩
theorem MapA.lt {ks : Int → Bool} {n cnt b : Nat} {w : World} (h : MapA ks n cnt b w) : b < w.heap.size := by
  obtain ⟨D, h1, _⟩ := h
  exact h1.lt
theorem MapA.made (w : World) : MapA (fun _ => false) 0 0 w.heap.size (w.alloc (.map #[] 0)) := ⟨.map [], World.ownsMap_made w _ _ _, Go.Maps.tidy_empty, fun x => rfl, fun x => rfl, rfl⟩
set_option maxRecDepth 100000 in
theorem MapA.look {ks : Int → Bool} {n cnt b : Nat} {w : World} (h : MapA ks n cnt b w) (x : Int) (h1 : 0 ≤ x) (h2 : x ≤ 1000) : (Instr.lookup 65 (.map (some b)) (.int .i64 x) false).run Tryz.prog w = .ok (.bool (ks x)) w := by
  obtain ⟨D, ho, _, h3, _⟩ := h
  obtain ⟨v, ps, hrun, hv⟩ := ho.lookup keyedInt Tryz.underlying65 (zeroBoolA w) (plainBoolA false) (keyInt x h1 h2)
  rw [h3 x] at hv
  have : v = .bool (ks x) := by
    unfold plainElem at hv
    rw [Tryz.underlying4] at hv
    cases v <;> simp at hv
    rw [hv.1]
  rw [hrun, this]
theorem MapA.len {ks : Int → Bool} {n cnt b : Nat} {w : World} (h : MapA ks n cnt b w) (ty : TypeId) : (Builtin.len_ #[65] ty #[.map (some b)]).run Tryz.prog w = .ok (.int .i64 (n : Int)) w := by
  obtain ⟨D, h1, _, _, _, h5⟩ := h
  rw [h1.len Tryz.underlying65 ty, h5]
theorem MapA.put {ks : Int → Bool} {n cnt b : Nat} {w : World} (h : MapA ks n cnt b w) (hc : cnt ≤ 1000) (x : Int) (hx1 : 0 ≤ x) (hx2 : x ≤ 1000) {ops : Array Oper} {rest : List Oper} {o : Oper} {a : Act} {Q : Exit → Act → World → Prop}
    (hg : o.guard = none) (m y v : Operand) (hop : o.op = Op.mapUpdate 65 m y v) (hm : a.eval m = .map (some b)) (hy : a.eval y = .int .i64 x) (hv : a.eval v = .bool true)
    (hK : ∀ w', MapA (nkAdd ks x) (if ks x = true then n else n + 1) (cnt + 1) b w' → Kept [b] w w' → wpList Tryz.prog ops Q rest (a.put o.dst undef) w') : wpList Tryz.prog ops Q (o :: rest) a w := by
  obtain ⟨D, h1, h2, h3, h4, h5⟩ := h
  refine wpList_mapUpdate_own w hg m y v 65 hop 3 4 keyedInt Tryz.underlying65 _ b cnt D hm h1 (by unfold maxLen; omega) _ _ (.int .i64 x) hy hv (keyInt x hx1 hx2) _ _ (plainBoolA true) ?_
  intro w' ho hgr
  refine hK w' ⟨_, ho, h2.put (by trivial) _, fun z => ?_, fun z => ?_, ?_⟩ ((Kept.refl [b] w).grown hgr (fun q hq => .inl (by simp at hq; simp [hq])))
  · unfold nkAdd
    by_cases hz : z = x
    · subst hz
      rw [if_pos rfl, Go.Maps.atKey_put_same h2.isMap (by trivial)]
    · rw [if_neg hz, Go.Maps.atKey_put_other (fun e => hz (by injection e with _ e))]
      exact h3 z
  · unfold nkAdd
    by_cases hz : z = x
    · subst hz
      rw [if_pos rfl, Go.Maps.has_put_same h2.isMap (by trivial)]
    · rw [if_neg hz, Go.Maps.has_put_other (fun e => hz (by injection e with _ e))]
      exact h4 z
  · rw [Go.Maps.size_put h2, h4, h5]
end Go.Proofs.YtfmnpepgmedfpaaGreatDoor
