/-
  Rows of integers: in memory; of the call's own.
-/
import Derived.Test.YtbiglbclifbmhaaGreatDoorVecB
import Derived.Laws.AppendOwn
import Derived.Lib.FrozenHead
import Derived.OwnWalk
namespace Go.Proofs.YtbiglbclifbmhaaGreatDoor
open Go.ChangeShapes Go.WideShapes Go.ChangeAt Go.RowKit
set_option linter.unusedVariables false
set_option linter.unusedSimpArgs false

/-- A slice of integers in memory. -/
structure I64At (w : World) (v : Value) (l : List Int) : Prop where
  at_ : ∃ p cap, v = .slice p l.length cap ∧ l.length ≤ cap ∧ cap ≤ 9223372036854775807 ∧ ∀ i, i < l.length → ∃ b o, p = some ⟨b, o, none⟩ ∧ b < w.heap.size ∧ w.cell? ⟨b, o + i, none⟩ = some (.int .i64 (l.getD i 0))
  len : l.length ≤ 1073741824
  small : ∀ i, -9223372036854775808 ≤ l.getD i 0 ∧ l.getD i 0 ≤ 9223372036854775807
theorem I64At.drewN {w : World} {v : Value} {l : List Int} (h : I64At w v l) (n : Nat) : I64At (w.drewN n) v l := ⟨h.at_, h.len, h.small⟩
theorem I64At.below {w w' : World} {v : Value} {l : List Int} (h : I64At w v l) (hb : Below w.heap.size w w') : I64At w' v l := by
  obtain ⟨p, cap, hv, h1, h2, hc⟩ := h.at_
  refine ⟨⟨p, cap, hv, h1, h2, fun i hi => ?_⟩, h.len, h.small⟩
  obtain ⟨b, o, hp, hlt, hcell⟩ := hc i hi
  exact ⟨b, o, hp, Nat.lt_of_lt_of_le hlt hb.size, by rw [hb.cell (p := ⟨b, o + i, none⟩) hlt]; exact hcell⟩
theorem infoI64 : (Tryz.prog.info? 3).map (fun i => (i.zero, i.size, i.bytes)) = some (some (.int .i64 0), 1, 8) := by kernel_rfl
def i64V (n : Int) : Value := .int .i64 n
/-- A row of numbers that the call owns from block B on; below B nothing has turned since W0. -/
def I64Own (B : Nat) (v : Value) (l : List Int) (W0 w : World) : Prop := w.ownsRow B 3 1 v l.length (l.map i64V) ∧ Below B W0 w ∧ B ≤ w.heap.size
theorem I64Own.nil (w : World) : I64Own w.heap.size (.slice none 0 0) [] w w := ⟨World.ownsRow_nil _ _ _ _, Below.refl _ _, Nat.le_refl _⟩
theorem I64Own.kept {B : Nat} {v : Value} {l : List Int} {W0 w w' : World} (h : I64Own B v l W0 w) (hb : Below w.heap.size w w') : I64Own B v l W0 w' := by
  refine ⟨h.1.kept (row := none) ⟨hb.os, hb.tape, hb.output, hb.size, fun k hk _ => hb.block k hk⟩ ?_, h.2.1.trans (hb.mono h.2.2), Nat.le_trans h.2.2 hb.size⟩
  cases v.ownBlock <;> simp
theorem I64Own.at {B : Nat} {v : Value} {l : List Int} {W0 w : World} (h : I64Own B v l W0 w) (hl : l.length ≤ 1073741824) (hs : ∀ i, -9223372036854775808 ≤ l.getD i 0 ∧ l.getD i 0 ≤ 9223372036854775807) : I64At w v l := by
  refine ⟨?_, hl, hs⟩
  rcases h.1.2 with ⟨rfl, h0⟩ | ⟨g, cap, cur, rfl, _, hg, hcap, hcm, _, ht⟩
  · exact ⟨none, 0, by rw [h0], by omega, by decide, fun i hi => by omega⟩
  · have hlt : g < w.heap.size := by
      rcases Nat.lt_or_ge g w.heap.size with hlt | hge
      · exact hlt
      · rw [Array.getElem?_eq_none hge] at hg; cases hg
    refine ⟨some ⟨g, 0, none⟩, cap, rfl, hcap, by unfold maxLen at hcm; omega, fun i hi => ⟨g, 0, rfl, hlt, ?_⟩⟩
    rw [cell_of_row w g (0 + i) cur _ _ hg, Nat.zero_add, ← Array.getElem?_toList]
    have h2 : (l.map i64V)[i]? = some (.int .i64 (l.getD i 0)) := by
      rw [List.getElem?_map, List.getElem?_eq_getElem hi, List.getD_eq_getElem?_getD, List.getElem?_eq_getElem hi]; rfl
    rw [← ht, List.getElem?_take_of_lt (by omega)] at h2
    exact h2
/-- A slice of numbers appended. -/
theorem wp_i64s {ops : Array Oper} {rest : List Oper} {o : Oper} {a : Act} {Q : Exit → Act → World → Prop} (hgd : o.guard = none) (s x : Operand)
    (ho : o.op = .call { callee := .builtin .append, args := #[s, x], argTypes := #[82, 82] })
    (B : Nat) (v : Value) (l m : List Int) (hs : a.eval s = v) (W0 w : World) (hb : I64Own B v l W0 w) (b : Nat) (q c : Nat)
    (hx : a.eval x = .slice (some ⟨b, q, none⟩) m.length c) (hm : ∀ i, i < m.length → w.cell? ⟨b, q + i, none⟩ = some (.int .i64 (m.getD i 0))) (hlen : l.length ≤ 1073741824) (hlen2 : m.length ≤ 1073741824)
    (h : ∀ v' w', I64Own B v' (l ++ m) W0 w' → w.grownBy w' v.ownBlock → wpList Tryz.prog ops Q rest (a.put o.dst v') w') : wpList Tryz.prog ops Q (o :: rest) a w := by
  obtain ⟨i0, hi, hz0, hz1, hz2⟩ := info_parts infoI64
  refine wpList_append_own _ hgd s x 82 ho B 3 i0 (.int .i64 0) 1 8 Tryz.underlying82 hi hz0 hz1 hz2 rfl (by decide) v l.length (l.map i64V) hs hb.1 ⟨b, q, none⟩ m.length c (m.map i64V) hx (by simp) (fun j u hu => ?_) (fun u hu => ?_) (by unfold maxLen; omega) (by omega) hb.2.2 ?_
  · have hj : j < m.length := by
      rcases Nat.lt_or_ge j m.length with h1 | h1
      · exact h1
      · rw [List.getElem?_eq_none (by simpa using h1)] at hu; cases hu
    rw [List.getElem?_map, List.getElem?_eq_getElem hj] at hu
    have hc := hm j hj
    rw [List.getD_eq_getElem?_getD, List.getElem?_eq_getElem hj] at hc
    rw [show (⟨b, q, none⟩ : Addr).add j = ⟨b, q + j, none⟩ from by unfold Addr.add; split <;> simp_all, hc]
    simpa [i64V] using hu
  · obtain ⟨n, _, rfl⟩ := List.mem_map.1 hu; rfl
  · intro v' w' ho' hg _
    refine h v' w' ⟨?_, hb.2.1.grown hg hb.2.2 (fun k hk => (hb.1.lt k hk).1), Nat.le_trans hb.2.2 hg.size⟩ hg
    rw [List.length_append, List.map_append]
    exact ho'
/-- A cell's block is none of the row's. -/
theorem I64Own.ne_c2 {B : Nat} {v : Value} {l : List Int} {W0 w : World} (h : I64Own B v l W0 w) {c : Cel} {C : Nat} (hc : C2Blk c C w) : some C ≠ v.ownBlock := by
  rcases h.1.2 with ⟨rfl, _⟩ | ⟨g, cap, cur, rfl, _, hg, _⟩
  · simp [Value.ownBlock]
  · intro e
    simp only [Value.ownBlock, Option.some.injEq] at e
    subst e
    unfold C2Blk celBox at hc
    rw [hg] at hc
    simp at hc
theorem C2Blk.other {c : Cel} {C : Nat} {w w' : World} {row : Option Nat} (h : C2Blk c C w) (hg : w.grownBy w' row) (hne : some C ≠ row) : C2Blk c C w' := by
  unfold C2Blk; rw [hg.block C h.lt hne]; exact h
end Go.Proofs.YtbiglbclifbmhaaGreatDoor
