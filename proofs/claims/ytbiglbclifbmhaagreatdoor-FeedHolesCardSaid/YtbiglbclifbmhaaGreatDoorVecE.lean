/-
  Package vec: rows of cells of the call's own; cells of states.
-/
import Derived.Test.YtbiglbclifbmhaaGreatDoorVecC
import Derived.Test.YtbiglbclifbmhaaGreatDoorIntR
namespace Go.Proofs.YtbiglbclifbmhaaGreatDoor
open Go.ChangeShapes Go.WideShapes Go.ChangeAt Go.RowKit
set_option linter.unusedVariables false
set_option linter.unusedSimpArgs false

def celList (l : List Cel) : List Value := l.flatMap fun c => [.int .i64 c.1, .int .i64 c.2]
theorem celList_snoc (l : List Cel) (c : Cel) : celList (l ++ [c]) = celList l ++ [.int .i64 c.1, .int .i64 c.2] := by simp [celList]
theorem celList_len (l : List Cel) : (celList l).length = l.length * 2 := by
  induction l with
  | nil => rfl
  | cons c l ih => simp only [celList, List.flatMap_cons, List.length_append, List.length_cons, List.length_nil] at *; omega
theorem celList_get (l : List Cel) (i : Nat) (h : i < l.length) : (celList l)[i * 2]? = some (.int .i64 (l.getD i (0, 0)).1) ∧ (celList l)[i * 2 + 1]? = some (.int .i64 (l.getD i (0, 0)).2) := by
  induction l generalizing i with
  | nil => simp at h
  | cons c l ih =>
    cases i with
    | zero => exact ⟨rfl, rfl⟩
    | succ i =>
      have := ih i (by simpa using h)
      have e : celList (c :: l) = [.int .i64 c.1, .int .i64 c.2] ++ celList l := rfl
      rw [e, List.getElem?_append_right (by simp; omega), List.getElem?_append_right (by simp; omega)]
      have e1 : (i + 1) * 2 - [Value.int .i64 c.1, .int .i64 c.2].length = i * 2 := by simp; omega
      have e2 : (i + 1) * 2 + 1 - [Value.int .i64 c.1, .int .i64 c.2].length = i * 2 + 1 := by simp; omega
      rw [e1, e2]
      simpa using this
/-- A row of cells that the call owns from block B on; below B nothing has turned since W0. -/
def CelOwn (B : Nat) (v : Value) (l : List Cel) (W0 w : World) : Prop := w.ownsRow B 68 2 v l.length (celList l) ∧ Below B W0 w ∧ B ≤ w.heap.size
theorem CelOwn.nil (w : World) : CelOwn w.heap.size (.slice none 0 0) [] w w := ⟨World.ownsRow_nil _ _ _ _, Below.refl _ _, Nat.le_refl _⟩
theorem CelOwn.kept {B : Nat} {v : Value} {l : List Cel} {W0 w w' : World} (h : CelOwn B v l W0 w) (hb : Below w.heap.size w w') : CelOwn B v l W0 w' := by
  refine ⟨h.1.kept (row := none) ⟨hb.os, hb.tape, hb.output, hb.size, fun k hk _ => hb.block k hk⟩ ?_, h.2.1.trans (hb.mono h.2.2), Nat.le_trans h.2.2 hb.size⟩
  cases v.ownBlock <;> simp
/-- A row that is not empty, cell by cell. -/
theorem CelOwn.shape {B : Nat} {v : Value} {l : List Cel} {W0 w : World} (h : CelOwn B v l W0 w) (hne : 0 < l.length) : ∃ g c, v = .slice (some ⟨g, 0, none⟩) l.length c ∧ l.length ≤ c ∧ c ≤ 9223372036854775807 ∧ B ≤ g ∧ g < w.heap.size ∧
    (∀ i, i < l.length → w.cell? ⟨g, i * 2, none⟩ = some (.int .i64 (l.getD i (0, 0)).1) ∧ w.cell? ⟨g, i * 2 + 1, none⟩ = some (.int .i64 (l.getD i (0, 0)).2)) ∧ ∀ i, w.frozen? ⟨g, i, none⟩ = false := by
  rcases h.1.2 with ⟨rfl, h0⟩ | ⟨g, cap, cur, rfl, hB, hg, hcap, hcm, _, ht⟩
  · omega
  · have hlt : g < w.heap.size := by
      rcases Nat.lt_or_ge g w.heap.size with hlt | hge
      · exact hlt
      · rw [Array.getElem?_eq_none hge] at hg; cases hg
    have key : ∀ j u, j < l.length * 2 → (celList l)[j]? = some u → w.cell? ⟨g, j, none⟩ = some u := by
      intro j u hj hu
      rw [cell_of_row w g j cur _ _ hg, ← Array.getElem?_toList]
      rw [← ht, List.getElem?_take_of_lt hj] at hu
      exact hu
    refine ⟨g, cap, rfl, hcap, by unfold maxLen at hcm; omega, hB, hlt, fun i hi => ?_, fun i => frozen_of_row w g i _ _ hg⟩
    obtain ⟨a, b⟩ := celList_get l i hi
    exact ⟨key (i * 2) _ (by omega) a, key (i * 2 + 1) _ (by omega) b⟩
theorem CelOwn.at {B : Nat} {v : Value} {l : List Cel} {W0 w : World} (h : CelOwn B v l W0 w) (hl : l.length ≤ 1073741824) (hs : ∀ i, -9223372036854775808 ≤ (l.getD i (0, 0)).2 ∧ (l.getD i (0, 0)).2 ≤ 9223372036854775807) : C2At w v l := by
  refine ⟨?_, hl, hs⟩
  rcases Nat.eq_zero_or_pos l.length with h0 | h0
  · rcases h.1.2 with ⟨rfl, _⟩ | ⟨g, cap, cur, rfl, hB, hg, hcap, hcm, _, ht⟩
    · exact ⟨none, 0, by rw [h0], by omega, by decide, fun i hi => by omega⟩
    · exact ⟨some ⟨g, 0, none⟩, cap, rfl, hcap, by unfold maxLen at hcm; omega, fun i hi => by omega⟩
  · obtain ⟨g, c, e, h1, h2, _, hlt, hc, _⟩ := h.shape h0
    exact ⟨some ⟨g, 0, none⟩, c, e, h1, h2, fun i hi => ⟨g, 0, rfl, hlt, by rw [Nat.zero_add]; exact (hc i hi).1, by rw [Nat.zero_add]; exact (hc i hi).2⟩⟩
/-- The last one's run is written anew. -/
theorem CelOwn.setRun {B g cap : Nat} {l : List Cel} {s r : Int} {W0 w : World} (h : CelOwn B (.slice (some ⟨g, 0, none⟩) (l.length + 1) cap) (l ++ [(s, r)]) W0 w) (r2 : Int) :
    CelOwn B (.slice (some ⟨g, 0, none⟩) (l.length + 1) cap) (l ++ [(s, r2)]) W0 (w.setCell ⟨g, l.length * 2 + 1, none⟩ (.int .i64 r2)) := by
  obtain ⟨h1, h2, h3⟩ := h
  rcases h1.2 with ⟨e, _⟩ | ⟨g', cap', cur, e, hB, hg, hcap, hcm, hsz, ht⟩
  · cases e
  · injection e with e1 _ e2
    injection e1 with e1
    injection e1 with e1 _ _
    subst e1 e2
    refine ⟨⟨celList_len _, .inr ⟨g, cap, cur.setIfInBounds (l.length * 2 + 1) (.int .i64 r2), by rw [List.length_append]; rfl, hB, heap_setCell_same w g _ _ _ _ hg, by rw [List.length_append] at hcap ⊢; exact hcap, hcm, by rw [Array.size_setIfInBounds]; exact hsz, ?_⟩⟩, h2.setCell (p := ⟨g, l.length * 2 + 1, none⟩) hB _, by simpa using h3⟩
    rw [Array.toList_setIfInBounds, List.take_set]
    have hl : (l ++ [(s, r)]).length = (l ++ [(s, r2)]).length := by simp
    rw [← hl, ht, celList_snoc, celList_snoc, List.set_append_right _ _ (by rw [celList_len]; omega), celList_len, show l.length * 2 + 1 - l.length * 2 = 1 by omega]
    rfl
theorem infoC2z : (Tryz.prog.info? 68).map (fun i => (i.zero, i.size, i.bytes)) = some (some (.agg #[.int .i64 0, .int .i64 0]), 2, 16) := by kernel_rfl
/-- One cell appended. -/
theorem wp_cel {ops : Array Oper} {rest : List Oper} {o : Oper} {a : Act} {Q : Exit → Act → World → Prop} (hgd : o.guard = none) (s x : Operand)
    (ho : o.op = .call { callee := .builtin .append, args := #[s, x], argTypes := #[53, 53] })
    (B : Nat) (v : Value) (l : List Cel) (hs : a.eval s = v) (W0 w0 w1 : World) (c : Cel) (hw : w1 = w0.alloc (celBox c)) (hb : CelOwn B v l W0 w0) (H : Nat) (hH : w0.heap.size = H)
    (hx : a.eval x = .slice (some ⟨H, 0, none⟩) 1 1) (hlen : l.length ≤ 1073741824)
    (h : ∀ v' w', CelOwn B v' (l ++ [c]) W0 w' → wpList Tryz.prog ops Q rest (a.put o.dst v') w') : wpList Tryz.prog ops Q (o :: rest) a w1 := by
  obtain ⟨i0, hi, hz0, hz1, hz2⟩ := info_parts infoC2z
  subst hH hw
  have hb' := hb.kept (bel_alloc w0 (celBox c))
  refine wpList_append_own _ hgd s x 53 ho B 68 i0 (.agg #[.int .i64 0, .int .i64 0]) 2 16 Tryz.underlying53 hi hz0 hz1 hz2 rfl (by decide) v l.length (celList l) hs hb'.1 ⟨w0.heap.size, 0, none⟩ 1 1 [.int .i64 c.1, .int .i64 c.2] hx rfl (fun j u hu => ?_) (by intro u hu; simp at hu; rcases hu with rfl | rfl <;> rfl) (by unfold maxLen; omega) (by omega) hb'.2.2 ?_
  · have hadd : (⟨w0.heap.size, 0, none⟩ : Addr).add j = ⟨w0.heap.size, j, none⟩ := by unfold Addr.add; split <;> simp_all
    rw [hadd, cell_of_row _ _ _ _ _ _ (heap_alloc_new w0 (celBox c))]
    simpa using hu
  · intro v' w' ho' hg _
    refine h v' w' ⟨?_, hb'.2.1.grown hg hb'.2.2 (fun k hk => (hb'.1.lt k hk).1), Nat.le_trans hb'.2.2 hg.size⟩
    rw [List.length_append, celList_snoc]
    exact ho'
/-- One state more. -/
def ofStep (acc : List Cel) (s : Int) : List Cel := match acc.getLast? with
  | none => [(s, 1)]
  | some c => if c.1 = s ∧ c.2 < 64 then acc.dropLast ++ [(s, c.2 + 1)] else acc ++ [(s, 1)]
def ofR (l : List Int) : List Cel := if l.all stB = true then l.foldl ofStep [] else []
theorem ofStep_nil (s : Int) : ofStep [] s = [] ++ [(s, 1)] := rfl
theorem ofStep_up (l : List Cel) (s r : Int) (h : r < 64) : ofStep (l ++ [(s, r)]) s = l ++ [(s, r + 1)] := by
  unfold ofStep
  rw [List.getLast?_append]
  simp [h]
theorem ofStep_new (l : List Cel) (t r s : Int) (h : ¬ (t = s ∧ r < 64)) : ofStep (l ++ [(t, r)]) s = (l ++ [(t, r)]) ++ [(s, 1)] := by
  unfold ofStep
  rw [List.getLast?_append]
  simp only [List.getLast?_singleton, Option.some_or]
  rw [if_neg h]
def runsOk (l : List Cel) : Prop := ∀ c ∈ l, 1 ≤ c.2 ∧ c.2 ≤ 64
theorem ofStep_ok (l : List Cel) (s : Int) (h : runsOk l) : runsOk (ofStep l s) ∧ (ofStep l s).length ≤ l.length + 1 := by
  rcases List.eq_nil_or_concat l with rfl | ⟨m, ⟨t, r⟩, rfl⟩
  · exact ⟨fun c hc => by simp [ofStep] at hc; subst hc; exact ⟨by simp, by simp⟩, by simp [ofStep]⟩
  · rw [List.concat_eq_append] at *
    by_cases hh : t = s ∧ r < 64
    · obtain ⟨rfl, hr⟩ := hh
      rw [ofStep_up m t r hr]
      refine ⟨fun c hc => ?_, by simp⟩
      rw [List.mem_append] at hc
      rcases hc with hc | hc
      · exact h c (by rw [List.mem_append]; exact .inl hc)
      · simp at hc
        subst hc
        have := h (t, r) (by simp)
        simp only at this ⊢
        omega
    · rw [ofStep_new m t r s hh]
      refine ⟨fun c hc => ?_, by simp⟩
      rw [List.mem_append] at hc
      rcases hc with hc | hc
      · exact h c hc
      · simp at hc; subst hc; exact ⟨by simp, by simp⟩
end Go.Proofs.YtbiglbclifbmhaaGreatDoor
