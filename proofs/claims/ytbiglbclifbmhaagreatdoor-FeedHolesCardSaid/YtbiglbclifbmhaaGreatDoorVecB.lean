/-
  Package vec: cells in memory; which may be.
-/
import Derived.Test.YtbiglbclifbmhaaGreatDoorVecA
import Derived.Laws.Rows
import Derived.Laws.Tables
import Derived.Deep.MidRow
import Derived.LoopTactic
namespace Go.Proofs.YtbiglbclifbmhaaGreatDoor
open Go.ChangeShapes Go.WideShapes Go.ChangeAt Go.RowKit
set_option linter.unusedVariables false
set_option linter.unusedSimpArgs false

/-- A cell: its state, its run. -/
abbrev Cel := Int × Int
def celV (c : Cel) : Value := .agg #[.int .i64 c.1, .int .i64 c.2]
def celBox (c : Cel) : Obj := .cells #[.int .i64 c.1, .int .i64 c.2] 68
theorem infoC2 : (Tryz.prog.info? 68).map (·.size) = some 2 := by kernel_rfl
def C2Blk (c : Cel) (C : Nat) (w : World) : Prop := w.heap[C]? = some (celBox c)
theorem C2Blk.lt {c : Cel} {C : Nat} {w : World} (h : C2Blk c C w) : C < w.heap.size := by
  rcases Nat.lt_or_ge C w.heap.size with h' | h'
  · exact h'
  · unfold C2Blk at h; rw [Array.getElem?_eq_none h'] at h; cases h
theorem C2Blk.below {c : Cel} {C : Nat} {w w' : World} (h : C2Blk c C w) (hb : Below w.heap.size w w') : C2Blk c C w' := by
  unfold C2Blk; rw [hb.block C h.lt]; exact h
theorem C2Blk.cells {c : Cel} {C : Nat} {w : World} (h : C2Blk c C w) : w.cell? ⟨C, 0, none⟩ = some (.int .i64 c.1) ∧ w.cell? ⟨C, 1, none⟩ = some (.int .i64 c.2) :=
  ⟨by rw [cell_of_row w C 0 _ _ _ h]; rfl, by rw [cell_of_row w C 1 _ _ _ h]; rfl⟩
theorem store_c2 {ops : Array Oper} {rest : List Oper} {o : Oper} {a : Act} {w : World} {Q : Exit → Act → World → Prop} (hgd : o.guard = none) (x y : Operand) (ho : o.op = .store 68 x y)
    (C : Nat) (c c2 : Cel) (hx : a.eval x = .pointer (some ⟨C, 0, none⟩)) (hy : a.eval y = .agg #[.int .i64 c2.1, .int .i64 c2.2]) (hb : C2Blk c C w)
    (hh : ∀ w', C2Blk c2 C w' → w.grownBy w' (some C) → wpList Tryz.prog ops Q rest (a.put o.dst undef) w') : wpList Tryz.prog ops Q (o :: rest) a w :=
  wpList_store_row hgd 68 x y ho C #[.int .i64 c2.1, .int .i64 c2.2] hx hy 68 #[.int .i64 c.1, .int .i64 c.2] hb infoC2 rfl (by simp [Value.oneCell']) (hh _ (setRow_heap w C _ _ _ _ hb) ⟨rfl, rfl, rfl, by simp, fun k _ hk => by
      have hne : k ≠ C := fun e => hk (by rw [e])
      simp only [World.setRow, Array.getElem?_modify]
      rw [if_neg (by omega)]⟩)
/-- A slice of cells in memory. -/
structure C2At (w : World) (v : Value) (l : List Cel) : Prop where
  at_ : ∃ p cap, v = .slice p l.length cap ∧ l.length ≤ cap ∧ cap ≤ 9223372036854775807 ∧ ∀ i, i < l.length → ∃ b o, p = some ⟨b, o, none⟩ ∧ b < w.heap.size ∧ w.cell? ⟨b, o + i * 2, none⟩ = some (.int .i64 (l.getD i (0, 0)).1) ∧ w.cell? ⟨b, o + i * 2 + 1, none⟩ = some (.int .i64 (l.getD i (0, 0)).2)
  len : l.length ≤ 1073741824
  small : ∀ i, -9223372036854775808 ≤ (l.getD i (0, 0)).2 ∧ (l.getD i (0, 0)).2 ≤ 9223372036854775807
theorem C2At.drewN {w : World} {v : Value} {l : List Cel} (h : C2At w v l) (n : Nat) : C2At (w.drewN n) v l := ⟨h.at_, h.len, h.small⟩
theorem C2At.below {w w' : World} {v : Value} {l : List Cel} (h : C2At w v l) (hb : Below w.heap.size w w') : C2At w' v l := by
  obtain ⟨p, cap, hv, h1, h2, hc⟩ := h.at_
  refine ⟨⟨p, cap, hv, h1, h2, fun i hi => ?_⟩, h.len, h.small⟩
  obtain ⟨b, o, hp, hlt, c1, c2⟩ := hc i hi
  exact ⟨b, o, hp, Nat.lt_of_lt_of_le hlt hb.size, by rw [hb.cell (p := ⟨b, o + i * 2, none⟩) hlt]; exact c1, by rw [hb.cell (p := ⟨b, o + i * 2 + 1, none⟩) hlt]; exact c2⟩
/-- May it be a cell? -/
def celB (c : Cel) : Bool := stB c.1 && (decide (1 ≤ c.2) && decide (c.2 ≤ 64))
/-- May they follow n numbers? -/
def mayF : Int → List Cel → Bool
  | _, [] => true
  | n, c :: l => celB c && (decide (n + c.2 ≤ 1000) && mayF (n + c.2) l)
theorem isCell_any (c : Cel) (w : World) : Calls Tryz.prog 86 #[.agg #[.int .i64 c.1, .int .i64 c.2]] w fun e w' => e = .returned (.bool (celB c)) ∧ Below w.heap.size w w' := by
  obtain ⟨s, r⟩ := c
  have HS := Lib.hid (fun w => isState_any s w)
  have HC : Hid (celB (s, r) = (stB s && (decide (1 ≤ r) && decide (r ≤ 64)))) := Lib.hid rfl
  rw [HC.out]
  clear HC
  cases hs : stB s with
  | false =>
    rw [hs] at HS
    clear hs
    go_enter Tryz.func86, Tryz.ntmps86
    go_wp2_with (go_at_call 70; (with_reducible refine (HS.out _).mono ?_); rintro e w1 ⟨rfl, rfl⟩)
    go_ret
    exact ⟨rfl, bel_alloc _ _⟩
  | true =>
    rw [hs] at HS
    clear hs
    cases h1 : decide (1 ≤ r) with
    | false =>
      go_enter Tryz.func86, Tryz.ntmps86
      go_wp2_with (go_at_call 70; (with_reducible refine (HS.out _).mono ?_); rintro e w1 ⟨rfl, rfl⟩)
      go_ret
      exact ⟨rfl, bel_alloc _ _⟩
    | true =>
      cases h2 : decide (r ≤ 64) with
      | false =>
        go_enter Tryz.func86, Tryz.ntmps86
        go_wp2_with (go_at_call 70; (with_reducible refine (HS.out _).mono ?_); rintro e w1 ⟨rfl, rfl⟩)
        go_ret
        exact ⟨rfl, bel_alloc _ _⟩
      | true =>
        go_enter Tryz.func86, Tryz.ntmps86
        go_wp2_with (go_at_call 70; (with_reducible refine (HS.out _).mono ?_); rintro e w1 ⟨rfl, rfl⟩)
        go_ret
        exact ⟨rfl, bel_alloc _ _⟩
end Go.Proofs.YtbiglbclifbmhaaGreatDoor
