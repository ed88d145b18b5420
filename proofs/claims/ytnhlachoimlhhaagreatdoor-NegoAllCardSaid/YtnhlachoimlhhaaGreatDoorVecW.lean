/-
  Package vec: states, what is told twice; the law VecMerge.
  Package vec: cells in memory; which may be.
  Rows of integers: in memory; of the call's own.
  Package vec: which cells may be.
  Package vec: states spread out.
  Package vec: rows of cells of the call's own; cells of states.
  Package vec: cells of states, walked.
  Cells of states: what they spread out to, which they are.
-/
import Derived.Test.YtnhlachoimlhhaaGreatDoorMatW
import Derived.Test.YtnhlachoimlhhaaGreatDoorChecked
import Derived.WalkKit
import Derived.ProofKit
import Derived.LoopTactic
import Derived.Outline
import Derived.BigQuiet
import Derived.Laws.Rows
import Derived.Laws.Tables
import Derived.Deep.MidRow
import Derived.Laws.AppendOwn
import Derived.Lib.FrozenHead
import Derived.OwnWalk
import Derived.Laws.NewBlocks
import Derived.RegionTactic
import Derived.Deep.Cut
import Derived.Deep.DeepCutAuto
namespace Go.Proofs.YtnhlachoimlhhaaGreatDoor
open Go.ChangeShapes Go.WideShapes Go.ChangeAt Go.RowKit
set_option linter.unusedVariables false
set_option linter.unusedSimpArgs false

def stB (s : Int) : Bool := decide (s = 0 ∨ s = 1 ∨ s = 3)
/-- The states, and what is none. -/
theorem st_cases (s : Int) : s = 0 ∨ s = 1 ∨ s = 3 ∨ ((s == 0) = false ∧ (s == 1) = false ∧ (s == 3) = false ∧ stB s = false) := by
  by_cases h0 : s = 0
  · exact .inl h0
  by_cases h1 : s = 1
  · exact .inr (.inl h1)
  by_cases h3 : s = 3
  · exact .inr (.inr (.inl h3))
  refine .inr (.inr (.inr ⟨?_, ?_, ?_, ?_⟩))
  · rw [beq_eq_false_iff_ne]; exact h0
  · rw [beq_eq_false_iff_ne]; exact h1
  · rw [beq_eq_false_iff_ne]; exact h3
  · exact decide_eq_false (by omega)
theorem isState_any (s : Int) (w : World) : Calls Tryz.prog 184 #[.int .i64 s] w fun e w' => e = .returned (.bool (stB s)) ∧ w = w' := by
  rcases st_cases s with rfl | rfl | rfl | ⟨h0, h1, h3, hb⟩
  case inr.inr.inr =>
    have HB := Lib.hid hb
    clear hb
    go_enter Tryz.func184, Tryz.ntmps184
    go_wp2
    go_ret
    exact ⟨by rw [HB.out]; rfl, rfl⟩
  all_goals
    go_enter Tryz.func184, Tryz.ntmps184
    go_wp2
    go_ret
    exact ⟨rfl, rfl⟩
/-- What is known of a number that is told as a, and as b. -/
def mergeV (a b : Int) : Int := if stB a && stB b then (if a = 1 ∨ b = 1 then 1 else if a = 0 ∨ b = 0 then 0 else 3) else 0
set_option maxHeartbeats 2000000 in
theorem merge_any (a b : Int) (w : World) : Calls Tryz.prog 144 #[.int .i64 a, .int .i64 b] w fun e w' => e = .returned (.tuple #[.int .i64 (mergeV a b), .bool (stB a && stB b)]) ∧ w = w' := by
  have HA := Lib.hid (fun w => isState_any a w)
  have HB := Lib.hid (fun w => isState_any b w)
  rcases st_cases a with rfl | rfl | rfl | ⟨h0, h1, h3, hb⟩
  case inr.inr.inr =>
    have HZ := Lib.hid hb
    rw [hb] at HA
    clear hb
    go_enter Tryz.func144, Tryz.ntmps144
    go_wp2_with (go_at_call 184; first | (with_reducible refine (HA.out _).mono ?_; rintro e w1 ⟨rfl, rfl⟩) | (with_reducible refine (HB.out _).mono ?_; rintro e w1 ⟨rfl, rfl⟩))
    go_ret2
    exact ⟨by unfold mergeV; rw [HZ.out]; rfl, rfl⟩
  all_goals
    rcases st_cases b with rfl | rfl | rfl | ⟨g0, g1, g3, gb⟩
  case inl.inr.inr.inr | inr.inl.inr.inr.inr | inr.inr.inl.inr.inr.inr =>
    have HZ := Lib.hid gb
    rw [gb] at HB
    clear gb
    go_enter Tryz.func144, Tryz.ntmps144
    go_wp2_with (go_at_call 184; first | (with_reducible refine (HA.out _).mono ?_; rintro e w1 ⟨rfl, rfl⟩) | (with_reducible refine (HB.out _).mono ?_; rintro e w1 ⟨rfl, rfl⟩))
    go_ret2
    exact ⟨by unfold mergeV; rw [HZ.out]; rfl, rfl⟩
  all_goals
    go_enter Tryz.func144, Tryz.ntmps144
    go_wp2_with (go_at_call 184; first | (with_reducible refine (HA.out _).mono ?_; rintro e w1 ⟨rfl, rfl⟩) | (with_reducible refine (HB.out _).mono ?_; rintro e w1 ⟨rfl, rfl⟩))
    go_ret2
    exact ⟨rfl, rfl⟩
end Go.Proofs.YtnhlachoimlhhaaGreatDoor

namespace Go.Proofs.YtnhlachoimlhhaaGreatDoor
open Go.ChangeShapes Go.WideShapes Go.ChangeAt Go.RowKit
set_option linter.unusedVariables false
set_option linter.unusedSimpArgs false

/-- A cell: its state, its run. -/
abbrev Cel := Int × Int
def celV (c : Cel) : Value := .agg #[.int .i64 c.1, .int .i64 c.2]
def celBox (c : Cel) : Obj := .cells #[.int .i64 c.1, .int .i64 c.2] 188
theorem infoC2 : (Tryz.prog.info? 188).map (·.size) = some 2 := by kernel_rfl
def C2Blk (c : Cel) (C : Nat) (w : World) : Prop := w.heap[C]? = some (celBox c)
theorem C2Blk.lt {c : Cel} {C : Nat} {w : World} (h : C2Blk c C w) : C < w.heap.size := by
  rcases Nat.lt_or_ge C w.heap.size with h' | h'
  · exact h'
  · unfold C2Blk at h; rw [Array.getElem?_eq_none h'] at h; cases h
theorem C2Blk.below {c : Cel} {C : Nat} {w w' : World} (h : C2Blk c C w) (hb : Below w.heap.size w w') : C2Blk c C w' := by
  unfold C2Blk; rw [hb.block C h.lt]; exact h
theorem C2Blk.cells {c : Cel} {C : Nat} {w : World} (h : C2Blk c C w) : w.cell? ⟨C, 0, none⟩ = some (.int .i64 c.1) ∧ w.cell? ⟨C, 1, none⟩ = some (.int .i64 c.2) :=
  ⟨by rw [cell_of_row w C 0 _ _ _ h]; rfl, by rw [cell_of_row w C 1 _ _ _ h]; rfl⟩
theorem store_c2 {ops : Array Oper} {rest : List Oper} {o : Oper} {a : Act} {w : World} {Q : Exit → Act → World → Prop} (hgd : o.guard = none) (x y : Operand) (ho : o.op = .store 188 x y)
    (C : Nat) (c c2 : Cel) (hx : a.eval x = .pointer (some ⟨C, 0, none⟩)) (hy : a.eval y = .agg #[.int .i64 c2.1, .int .i64 c2.2]) (hb : C2Blk c C w)
    (hh : ∀ w', C2Blk c2 C w' → w.grownBy w' (some C) → wpList Tryz.prog ops Q rest (a.put o.dst undef) w') : wpList Tryz.prog ops Q (o :: rest) a w :=
  wpList_store_row hgd 188 x y ho C #[.int .i64 c2.1, .int .i64 c2.2] hx hy 188 #[.int .i64 c.1, .int .i64 c.2] hb infoC2 rfl (by simp [Value.oneCell']) (hh _ (setRow_heap w C _ _ _ _ hb) ⟨rfl, rfl, rfl, by simp, fun k _ hk => by
      have hne : k ≠ C := fun e => hk (by rw [e])
      simp only [World.setRow, Array.getElem?_modify]
      rw [if_neg (by omega)]⟩)
/-- A slice of cells in memory. -/
structure C2At (w : World) (v : Value) (l : List Cel) : Prop where
  at_ : ∃ p cap, v = .slice p l.length cap ∧ l.length ≤ cap ∧ cap ≤ 9223372036854775807 ∧ ∀ i, i < l.length → ∃ b o, p = some ⟨b, o, none⟩ ∧ b < w.heap.size ∧ w.cell? ⟨b, o + i * 2, none⟩ = some (.int .i64 (l.getD i (0, 0)).1) ∧ w.cell? ⟨b, o + i * 2 + 1, none⟩ = some (.int .i64 (l.getD i (0, 0)).2)
  len : l.length ≤ 1073741824
  small : ∀ i, -9223372036854775808 ≤ (l.getD i (0, 0)).2 ∧ (l.getD i (0, 0)).2 ≤ 9223372036854775807
theorem C2At.drewN {w : World} {v : Value} {l : List Cel} (h : C2At w v l) (n : Nat) : C2At (w.drewN n) v l := ⟨h.at_, h.len, h.small⟩
theorem C2At.below {w w' : World} {v : Value} {l : List Cel} (h : C2At w v l) (hb : Below w.heap.size w w') : C2At w' v l := by
  obtain ⟨p, cap, hv, h1, h2, hc⟩ := h.at_
  refine ⟨⟨p, cap, hv, h1, h2, fun i hi => ?_⟩, h.len, h.small⟩
  obtain ⟨b, o, hp, hlt, c1, c2⟩ := hc i hi
  exact ⟨b, o, hp, Nat.lt_of_lt_of_le hlt hb.size, by rw [hb.cell (p := ⟨b, o + i * 2, none⟩) hlt]; exact c1, by rw [hb.cell (p := ⟨b, o + i * 2 + 1, none⟩) hlt]; exact c2⟩
/-- May it be a cell? -/
def celB (c : Cel) : Bool := stB c.1 && (decide (1 ≤ c.2) && decide (c.2 ≤ 64))
/-- May they follow n numbers? -/
def mayF : Int → List Cel → Bool
  | _, [] => true
  | n, c :: l => celB c && (decide (n + c.2 ≤ 1000) && mayF (n + c.2) l)
theorem isCell_any (c : Cel) (w : World) : Calls Tryz.prog 195 #[.agg #[.int .i64 c.1, .int .i64 c.2]] w fun e w' => e = .returned (.bool (celB c)) ∧ Below w.heap.size w w' := by
  obtain ⟨s, r⟩ := c
  have HS := Lib.hid (fun w => isState_any s w)
  have HC : Hid (celB (s, r) = (stB s && (decide (1 ≤ r) && decide (r ≤ 64)))) := Lib.hid rfl
  rw [HC.out]
  clear HC
  cases hs : stB s with
  | false =>
    rw [hs] at HS
    clear hs
    go_enter Tryz.func195, Tryz.ntmps195
    go_wp2_with (go_at_call 184; (with_reducible refine (HS.out _).mono ?_); rintro e w1 ⟨rfl, rfl⟩)
    go_ret
    exact ⟨rfl, bel_alloc _ _⟩
  | true =>
    rw [hs] at HS
    clear hs
    cases h1 : decide (1 ≤ r) with
    | false =>
      go_enter Tryz.func195, Tryz.ntmps195
      go_wp2_with (go_at_call 184; (with_reducible refine (HS.out _).mono ?_); rintro e w1 ⟨rfl, rfl⟩)
      go_ret
      exact ⟨rfl, bel_alloc _ _⟩
    | true =>
      cases h2 : decide (r ≤ 64) with
      | false =>
        go_enter Tryz.func195, Tryz.ntmps195
        go_wp2_with (go_at_call 184; (with_reducible refine (HS.out _).mono ?_); rintro e w1 ⟨rfl, rfl⟩)
        go_ret
        exact ⟨rfl, bel_alloc _ _⟩
      | true =>
        go_enter Tryz.func195, Tryz.ntmps195
        go_wp2_with (go_at_call 184; (with_reducible refine (HS.out _).mono ?_); rintro e w1 ⟨rfl, rfl⟩)
        go_ret
        exact ⟨rfl, bel_alloc _ _⟩
end Go.Proofs.YtnhlachoimlhhaaGreatDoor

namespace Go.Proofs.YtnhlachoimlhhaaGreatDoor
open Go.ChangeShapes Go.WideShapes Go.ChangeAt Go.RowKit
set_option linter.unusedVariables false
set_option linter.unusedSimpArgs false

/-- A slice of integers in memory. -/
structure I64At (w : World) (v : Value) (l : List Int) : Prop where
  at_ : ∃ p cap, v = .slice p l.length cap ∧ l.length ≤ cap ∧ cap ≤ 9223372036854775807 ∧ ∀ i, i < l.length → ∃ b o, p = some ⟨b, o, none⟩ ∧ b < w.heap.size ∧ w.cell? ⟨b, o + i, none⟩ = some (.int .i64 (l.getD i 0))
  len : l.length ≤ 1073741824
  small : ∀ i, -9223372036854775808 ≤ l.getD i 0 ∧ l.getD i 0 ≤ 9223372036854775807
theorem I64At.drewN {w : World} {v : Value} {l : List Int} (h : I64At w v l) (n : Nat) : I64At (w.drewN n) v l := ⟨h.at_, h.len, h.small⟩
theorem I64At.below {w w' : World} {v : Value} {l : List Int} (h : I64At w v l) (hb : Below w.heap.size w w') : I64At w' v l := by
  obtain ⟨p, cap, hv, h1, h2, hc⟩ := h.at_
  refine ⟨⟨p, cap, hv, h1, h2, fun i hi => ?_⟩, h.len, h.small⟩
  obtain ⟨b, o, hp, hlt, hcell⟩ := hc i hi
  exact ⟨b, o, hp, Nat.lt_of_lt_of_le hlt hb.size, by rw [hb.cell (p := ⟨b, o + i, none⟩) hlt]; exact hcell⟩
theorem infoI64 : (Tryz.prog.info? 3).map (fun i => (i.zero, i.size, i.bytes)) = some (some (.int .i64 0), 1, 8) := by kernel_rfl
def i64V (n : Int) : Value := .int .i64 n
/-- A row of numbers that the call owns from block B on; below B nothing has turned since W0. -/
def I64Own (B : Nat) (v : Value) (l : List Int) (W0 w : World) : Prop := w.ownsRow B 3 1 v l.length (l.map i64V) ∧ Below B W0 w ∧ B ≤ w.heap.size
theorem I64Own.nil (w : World) : I64Own w.heap.size (.slice none 0 0) [] w w := ⟨World.ownsRow_nil _ _ _ _, Below.refl _ _, Nat.le_refl _⟩
theorem I64Own.kept {B : Nat} {v : Value} {l : List Int} {W0 w w' : World} (h : I64Own B v l W0 w) (hb : Below w.heap.size w w') : I64Own B v l W0 w' := by
  refine ⟨h.1.kept (row := none) ⟨hb.os, hb.tape, hb.output, hb.size, fun k hk _ => hb.block k hk⟩ ?_, h.2.1.trans (hb.mono h.2.2), Nat.le_trans h.2.2 hb.size⟩
  cases v.ownBlock <;> simp
theorem I64Own.at {B : Nat} {v : Value} {l : List Int} {W0 w : World} (h : I64Own B v l W0 w) (hl : l.length ≤ 1073741824) (hs : ∀ i, -9223372036854775808 ≤ l.getD i 0 ∧ l.getD i 0 ≤ 9223372036854775807) : I64At w v l := by
  refine ⟨?_, hl, hs⟩
  rcases h.1.2 with ⟨rfl, h0⟩ | ⟨g, cap, cur, rfl, _, hg, hcap, hcm, _, ht⟩
  · exact ⟨none, 0, by rw [h0], by omega, by decide, fun i hi => by omega⟩
  · have hlt : g < w.heap.size := by
      rcases Nat.lt_or_ge g w.heap.size with hlt | hge
      · exact hlt
      · rw [Array.getElem?_eq_none hge] at hg; cases hg
    refine ⟨some ⟨g, 0, none⟩, cap, rfl, hcap, by unfold maxLen at hcm; omega, fun i hi => ⟨g, 0, rfl, hlt, ?_⟩⟩
    rw [cell_of_row w g (0 + i) cur _ _ hg, Nat.zero_add, ← Array.getElem?_toList]
    have h2 : (l.map i64V)[i]? = some (.int .i64 (l.getD i 0)) := by
      rw [List.getElem?_map, List.getElem?_eq_getElem hi, List.getD_eq_getElem?_getD, List.getElem?_eq_getElem hi]; rfl
    rw [← ht, List.getElem?_take_of_lt (by omega)] at h2
    exact h2
/-- A slice of numbers appended. -/
theorem wp_i64s {ops : Array Oper} {rest : List Oper} {o : Oper} {a : Act} {Q : Exit → Act → World → Prop} (hgd : o.guard = none) (s x : Operand)
    (ho : o.op = .call { callee := .builtin .append, args := #[s, x], argTypes := #[61, 61] })
    (B : Nat) (v : Value) (l m : List Int) (hs : a.eval s = v) (W0 w : World) (hb : I64Own B v l W0 w) (b : Nat) (q c : Nat)
    (hx : a.eval x = .slice (some ⟨b, q, none⟩) m.length c) (hm : ∀ i, i < m.length → w.cell? ⟨b, q + i, none⟩ = some (.int .i64 (m.getD i 0))) (hlen : l.length ≤ 1073741824) (hlen2 : m.length ≤ 1073741824)
    (h : ∀ v' w', I64Own B v' (l ++ m) W0 w' → w.grownBy w' v.ownBlock → wpList Tryz.prog ops Q rest (a.put o.dst v') w') : wpList Tryz.prog ops Q (o :: rest) a w := by
  obtain ⟨i0, hi, hz0, hz1, hz2⟩ := info_parts infoI64
  refine wpList_append_own _ hgd s x 61 ho B 3 i0 (.int .i64 0) 1 8 Tryz.underlying61 hi hz0 hz1 hz2 rfl (by decide) v l.length (l.map i64V) hs hb.1 ⟨b, q, none⟩ m.length c (m.map i64V) hx (by simp) (fun j u hu => ?_) (fun u hu => ?_) (by unfold maxLen; omega) (by omega) hb.2.2 ?_
  · have hj : j < m.length := by
      rcases Nat.lt_or_ge j m.length with h1 | h1
      · exact h1
      · rw [List.getElem?_eq_none (by simpa using h1)] at hu; cases hu
    rw [List.getElem?_map, List.getElem?_eq_getElem hj] at hu
    have hc := hm j hj
    rw [List.getD_eq_getElem?_getD, List.getElem?_eq_getElem hj] at hc
    rw [show (⟨b, q, none⟩ : Addr).add j = ⟨b, q + j, none⟩ from by unfold Addr.add; split <;> simp_all, hc]
    simpa [i64V] using hu
  · obtain ⟨n, _, rfl⟩ := List.mem_map.1 hu; rfl
  · intro v' w' ho' hg _
    refine h v' w' ⟨?_, hb.2.1.grown hg hb.2.2 (fun k hk => (hb.1.lt k hk).1), Nat.le_trans hb.2.2 hg.size⟩ hg
    rw [List.length_append, List.map_append]
    exact ho'
/-- A cell's block is none of the row's. -/
theorem I64Own.ne_c2 {B : Nat} {v : Value} {l : List Int} {W0 w : World} (h : I64Own B v l W0 w) {c : Cel} {C : Nat} (hc : C2Blk c C w) : some C ≠ v.ownBlock := by
  rcases h.1.2 with ⟨rfl, _⟩ | ⟨g, cap, cur, rfl, _, hg, _⟩
  · simp [Value.ownBlock]
  · intro e
    simp only [Value.ownBlock, Option.some.injEq] at e
    subst e
    unfold C2Blk celBox at hc
    rw [hg] at hc
    simp at hc
theorem C2Blk.other {c : Cel} {C : Nat} {w w' : World} {row : Option Nat} (h : C2Blk c C w) (hg : w.grownBy w' row) (hne : some C ≠ row) : C2Blk c C w' := by
  unfold C2Blk; rw [hg.block C h.lt hne]; exact h
end Go.Proofs.YtnhlachoimlhhaaGreatDoor

namespace Go.Proofs.YtnhlachoimlhhaaGreatDoor
open Go.ChangeShapes Go.WideShapes Go.ChangeAt Go.RowKit
set_option linter.unusedVariables false
set_option linter.unusedSimpArgs false

theorem mayF_at (n : Int) (l : List Cel) (k : Nat) (hk : k < l.length) : mayF n (l.drop k) = (celB (l.getD k (0, 0)) && (decide (n + (l.getD k (0, 0)).2 ≤ 1000) && mayF (n + (l.getD k (0, 0)).2) (l.drop (k + 1)))) := by
  rw [List.drop_eq_getElem_cons hk, List.getD_eq_getElem?_getD, List.getElem?_eq_getElem hk]; rfl
theorem celB_run {c : Cel} (h : celB c = true) : stB c.1 = true ∧ 1 ≤ c.2 ∧ c.2 ≤ 64 := by
  unfold celB at h
  simp only [Bool.and_eq_true, decide_eq_true_eq] at h
  exact ⟨h.1, h.2.1, h.2.2⟩

set_option maxHeartbeats 4000000 in
set_option maxRecDepth 100000 in
theorem vecMay_any (v : Value) (l : List Cel) (w : World) (hv : C2At w v l) :
    Calls Tryz.prog 167 #[v] w fun e w' => e = .returned (.bool (mayF 0 l)) ∧ Below w.heap.size w w' := by
  obtain ⟨p, cap, rfl, _, _, hc⟩ := hv.at_
  have HC := Lib.hid hc
  have hlen := hv.len
  have HSM := Lib.hid hv.small
  obtain ⟨N, hN⟩ : ∃ N, l.length = N := ⟨_, rfl⟩
  have HN := Lib.hid hN
  rw [hN] at HC hlen ⊢
  clear hc hv hN
  go_enter Tryz.func167, Tryz.ntmps167
  go_wp2
  go_loopw [3, 5, 8] (fun a _ i wr => ∃ (k : Nat) (n : Int), i = .int .i64 (k : Int) ∧ a = .int .i64 (1000 - n) ∧ 0 ≤ n ∧ n ≤ 1000 ∧ k ≤ N ∧ Hid (mayF 0 l = mayF n (l.drop k)) ∧ Hid (Below w.heap.size w wr)) (fun _ _ i _ => N - (intOf i).toNat)
  case atStart => exact ⟨0, 0, rfl, rfl, by omega, by omega, by omega, Lib.hid rfl, Lib.hid (Below.refl _ _)⟩
  case round =>
    obtain ⟨k, n, rfl, rfl, hn0, hn1, hk, hmf, hbr⟩ := hrel
    by_cases hkn : k < N
    · obtain ⟨b, o, rfl, hlt, c0, c1⟩ := HC.out k hkn
      rw [← hbr.out.cell (p := ⟨b, o + k * 2, none⟩) hlt] at c0
      rw [← hbr.out.cell (p := ⟨b, o + k * 2 + 1, none⟩) hlt] at c1
      have HAT := Lib.hid (mayF_at n l k (by rw [HN.out]; exact hkn))
      have hsm := HSM.out k
      generalize l.getD k (0, 0) = c at *
      obtain ⟨s, r⟩ := c
      simp only at c0 c1 hsm HAT
      have HCL := Lib.hid (fun W => isCell_any (s, r) W)
      simp only at HCL
      clear hlt
      go_upto_region 5 with (refine store_c2 rfl _ _ rfl _ (0, 0) (s, r) rfl rfl (heap_alloc_new wr _) ?_; intro W2 hc2 hg2)
      have hb2 : Below wr.heap.size wr W2 := (bel_alloc wr _).grown hg2 (by simp) (fun j hj => by cases hj; exact Nat.le_refl _)
      obtain ⟨C, hC⟩ : ∃ C, C = wr.heap.size := ⟨_, rfl⟩
      rw [← hC] at hc2 ⊢
      obtain ⟨x0, x1⟩ := hc2.cells
      simp only at x0 x1
      have HC2 := Lib.hid hc2
      have HB2 : Hid (Below w.heap.size w W2) := Lib.hid (bel_trans hbr.out hb2)
      clear hb2 hg2 hc2 hC c0 c1
      cases hcb : celB (s, r) with
      | false =>
        rw [hcb] at HCL
        have HF : Hid (mayF 0 l = false) := Lib.hid (by rw [hmf.out, HAT.out, hcb]; rfl)
        clear hcb
        go_wp2_with (go_at_call 195; (with_reducible refine (HCL.out _).mono ?_); rintro e W3 ⟨rfl, hb3⟩)
        go_ret
        exact ⟨by rw [HF.out]; rfl, bel_trans HB2.out hb3⟩
      | true =>
        obtain ⟨_, hr1, hr2⟩ := celB_run hcb
        simp only at hr1 hr2
        rw [hcb] at HCL
        by_cases hle : n + r ≤ 1000
        · have hd : decide ((1000 : Int) - n < r) = false := decide_eq_false (by omega)
          have HF : Hid (mayF 0 l = mayF (n + r) (l.drop (k + 1))) := Lib.hid (by rw [hmf.out, HAT.out, hcb, decide_eq_true hle]; rfl)
          clear hcb
          go_upto_region 7 with (go_at_call 195; (with_reducible refine (HCL.out _).mono ?_); rintro e W3 ⟨rfl, hb3⟩; have hx3 := (HC2.out.below hb3).cells; have y1 := hx3.2; simp only at y1; clear hx3)
          have HB3 : Hid (Below w.heap.size w W3) := Lib.hid (bel_trans HB2.out hb3)
          clear hb3 x0 x1
          go_wp2
          refine ⟨⟨k + 1, n + r, by go_num, by go_num, by omega, by omega, by omega, HF, HB3⟩, ?_⟩
          simp [intOf]; omega
        · have hd : decide ((1000 : Int) - n < r) = true := decide_eq_true (by omega)
          have HF : Hid (mayF 0 l = false) := Lib.hid (by rw [hmf.out, HAT.out, hcb, decide_eq_false hle]; rfl)
          clear hcb
          go_wp2_with (go_at_call 195; (with_reducible refine (HCL.out _).mono ?_); rintro e W3 ⟨rfl, hb3⟩; have hx3 := (HC2.out.below hb3).cells; have y1 := hx3.2; simp only at y1; clear hx3)
          go_ret
          exact ⟨by rw [HF.out]; rfl, bel_trans HB2.out hb3⟩
    · obtain rfl : k = N := by omega
      have hdr : l.drop k = [] := List.drop_eq_nil_of_le (by rw [HN.out]; exact Nat.le_refl _)
      have HF : Hid (mayF 0 l = true) := Lib.hid (by rw [hmf.out, hdr]; rfl)
      clear hdr
      go_wp2
      go_ret
      exact ⟨by rw [HF.out]; rfl, hbr.out⟩

end Go.Proofs.YtnhlachoimlhhaaGreatDoor

namespace Go.Proofs.YtnhlachoimlhhaaGreatDoor
open Go.ChangeShapes Go.WideShapes Go.ChangeAt Go.RowKit
set_option linter.unusedVariables false
set_option linter.unusedSimpArgs false

def spreadL (l : List Cel) : List Int := l.flatMap fun c => List.replicate c.2.toNat c.1
theorem spreadL_app (l m : List Cel) : spreadL (l ++ m) = spreadL l ++ spreadL m := by simp [spreadL]
theorem spreadL_one (c : Cel) : spreadL [c] = List.replicate c.2.toNat c.1 := by simp [spreadL]
theorem take_snocC (l : List Cel) (i : Nat) (h : i < l.length) : l.take (i + 1) = l.take i ++ [l.getD i (0, 0)] := by
  rw [List.take_add_one, List.getD_eq_getElem?_getD, List.getElem?_eq_getElem h]; rfl
theorem spreadL_take (l : List Cel) (k : Nat) (h : k < l.length) : spreadL (l.take (k + 1)) = spreadL (l.take k) ++ List.replicate (l.getD k (0, 0)).2.toNat (l.getD k (0, 0)).1 := by
  rw [take_snocC l k h, spreadL_app, spreadL_one]
theorem mayF_len : ∀ (l : List Cel) (n : Int), mayF n l = true → n ≤ 1000 → n + ((spreadL l).length : Int) ≤ 1000
  | [], n, _, h => by simp [spreadL]; exact h
  | c :: l, n, h, _ => by
    unfold mayF at h
    simp only [Bool.and_eq_true, decide_eq_true_eq] at h
    have h2 := mayF_len l (n + c.2) h.2.2 h.2.1
    have hr := (celB_run h.1).2
    have e : (spreadL (c :: l)).length = c.2.toNat + (spreadL l).length := by simp [spreadL]
    rw [e]
    omega
theorem mayF_all : ∀ (l : List Cel) (n : Int), mayF n l = true → ∀ i, i < l.length → celB (l.getD i (0, 0)) = true
  | [], _, _, i, hi => by simp at hi
  | c :: l, n, h, i, hi => by
    unfold mayF at h
    simp only [Bool.and_eq_true, decide_eq_true_eq] at h
    cases i with
    | zero => exact h.1
    | succ i => simpa using mayF_all l (n + c.2) h.2.2 i (by simpa using hi)
theorem spreadL_le (l : List Cel) (k : Nat) : (spreadL (l.take k)).length ≤ (spreadL l).length := by
  have e := congrArg (fun z => (spreadL z).length) (List.take_append_drop k l)
  simp only [spreadL_app, List.length_append] at e
  omega
/-- What is spread out of cells; nothing, if they may not be. -/
def spreadR (l : List Cel) : List Int := if mayF 0 l = true then spreadL l else []

set_option maxHeartbeats 8000000 in
set_option maxRecDepth 100000 in
theorem vecSpread_any (v : Value) (l : List Cel) (w : World) (hv : C2At w v l) :
    Calls Tryz.prog 168 #[v] w fun e w' => ∃ v', e = .returned v' ∧ I64Own w.heap.size v' (spreadR l) w w' := by
  have HM := Lib.hid (vecMay_any v l w hv)
  obtain ⟨p, cap, rfl, _, _, hc⟩ := hv.at_
  cases hmf : mayF 0 l with
  | false =>
    rw [hmf] at HM
    have HR : Hid (spreadR l = []) := Lib.hid (by unfold spreadR; rw [hmf]; rfl)
    clear hmf hc hv
    generalize l.length = N at *
    go_enter Tryz.func168, Tryz.ntmps168
    go_wp2_with (go_at_call 167; (with_reducible refine HM.out.mono ?_); rintro e w1 ⟨rfl, hb1⟩)
    go_ret
    exact ⟨_, rfl, by rw [HR.out]; exact (I64Own.nil w).kept hb1⟩
  | true =>
    rw [hmf] at HM
    have HR : Hid (spreadR l = spreadL l) := Lib.hid (by unfold spreadR; rw [hmf]; rfl)
    have HLE : Hid (∀ k, (spreadL (l.take k)).length ≤ 1000) := Lib.hid (fun k => by
      have h1 := spreadL_le l k
      have h2 := mayF_len l 0 hmf (by omega)
      omega)
    have HALL := Lib.hid (mayF_all l 0 hmf)
    have HC := Lib.hid hc
    have hlen := hv.len
    obtain ⟨N, hN⟩ : ∃ N, l.length = N := ⟨_, rfl⟩
    have HN := Lib.hid hN
    rw [hN] at HC HM hlen ⊢
    clear hc hv hN hmf
    go_enter Tryz.func168, Tryz.ntmps168
    go_wp2_with (go_at_call 167; (with_reducible refine HM.out.mono ?_); rintro e w1 ⟨rfl, hb1⟩)
    have HNIL := Lib.hid ((I64Own.nil w).kept hb1)
    clear hb1 HM
    go_loopw [3, 5, 11] (fun a _ i wr => ∃ k : Nat, i = .int .i64 (k : Int) ∧ k ≤ N ∧ Hid (I64Own w.heap.size a (spreadL (l.take k)) w wr)) (fun _ _ i _ => N - (intOf i).toNat)
    case atStart => exact ⟨0, rfl, by omega, HNIL⟩
    case round =>
      obtain ⟨k, rfl, hk, hown⟩ := hrel
      by_cases hkn : k < N
      · obtain ⟨b, o, rfl, hlt, c0, c1⟩ := HC.out k hkn
        rw [← hown.out.2.1.cell (p := ⟨b, o + k * 2, none⟩) hlt] at c0
        rw [← hown.out.2.1.cell (p := ⟨b, o + k * 2 + 1, none⟩) hlt] at c1
        have HTK := Lib.hid (spreadL_take l k (by rw [HN.out]; exact hkn))
        have hcb := celB_run (HALL.out k (by rw [HN.out]; exact hkn))
        have HLK := Lib.hid (HLE.out k)
        generalize l.getD k (0, 0) = c at *
        obtain ⟨s, r⟩ := c
        simp only at c0 c1 hcb HTK
        obtain ⟨_, hr1, hr2⟩ := hcb
        obtain ⟨R, hR⟩ := Int.eq_ofNat_of_zero_le (show 0 ≤ r by omega)
        subst hR
        rw [Int.toNat_natCast] at HTK
        clear hlt
        obtain ⟨wo, rfl⟩ : ∃ wo : World, wo = wr := ⟨_, rfl⟩
        go_wp2_with (refine store_c2 rfl _ _ rfl _ (0, 0) (s, (R : Int)) rfl rfl (heap_alloc_new wo _) ?_; intro W2 hc2 hg2; have hx2 := hc2.cells; have x1 := hx2.2; simp only at x1; clear hx2)
        have hb2 : Below wo.heap.size wo W2 := (bel_alloc wo _).grown hg2 (by simp) (fun j hj => by cases hj; exact Nat.le_refl _)
        have HO2 : Hid (I64Own w.heap.size u3 (spreadL (l.take k)) w W2) := Lib.hid (hown.out.kept hb2)
        obtain ⟨C, hC⟩ : ∃ C, C = wo.heap.size := ⟨_, rfl⟩
        rw [← hC] at hc2 x1 ⊢
        have HC2 := Lib.hid hc2
        clear hb2 hg2 hc2 hC c0 c1 x1 hown
        go_loopw [3, 17] (fun a i wi => ∃ j : Nat, i = .int .i64 (j : Int) ∧ j ≤ R ∧ Hid (I64Own w.heap.size a (spreadL (l.take k) ++ List.replicate j s) w wi) ∧ Hid (C2Blk (s, (R : Int)) C wi)) (fun _ i _ => R - (intOf i).toNat)
        case atStart => exact ⟨0, rfl, by omega, by rw [List.replicate_zero, List.append_nil]; exact HO2, HC2⟩
        case round =>
          obtain ⟨j, rfl, hj, hown, hcc⟩ := hrel
          by_cases hjr : j < R
          · have hx := hcc.out.cells
            have x0 := hx.1
            simp only at x0
            clear hx
            have HCELL : Hid (∀ i, i < ([s] : List Int).length → (wr.alloc (.cells #[.int .i64 s] 3)).cell? ⟨wr.heap.size, 0 + i, none⟩ = some (.int .i64 (([s] : List Int).getD i 0))) := Lib.hid (fun i hi => by
              have : i = 0 := by simp at hi; omega
              subst this
              rw [cell_of_row _ _ _ _ _ _ (heap_alloc_new wr _)]; rfl)
            have HLJ : Hid ((spreadL (l.take k) ++ List.replicate j s).length ≤ 1073741824) := Lib.hid (by have := HLK.out; rw [List.length_append, List.length_replicate]; omega)
            go_upto_region 10 with (at_builtin; refine wp_i64s rfl _ _ rfl w.heap.size u3 (spreadL (l.take k) ++ List.replicate j s) [s] rfl w _ (hown.out.kept (bel_alloc wr _)) wr.heap.size 0 1 rfl HCELL.out HLJ.out (by simp) ?_; intro v2 w9 ho9 hg9)
            have HO9 : Hid (I64Own w.heap.size v2 (spreadL (l.take k) ++ List.replicate (j + 1) s) w w9) := Lib.hid (by rw [List.replicate_succ', ← List.append_assoc]; exact ho9)
            have HC9 : Hid (C2Blk (s, (R : Int)) C w9) := Lib.hid ((hcc.out.below (bel_alloc wr _)).other hg9 (hown.out.ne_c2 hcc.out))
            clear ho9 hg9 x0 HCELL hown hcc
            go_wp2
            refine ⟨⟨j + 1, by go_num, by omega, HO9, HC9⟩, ?_⟩
            simp [intOf]; omega
          · obtain rfl : j = R := by omega
            have HO9 : Hid (I64Own w.heap.size u3 (spreadL (l.take (k + 1))) w wr) := Lib.hid (by rw [HTK.out]; exact hown.out)
            clear hown hcc
            go_wp2
            refine ⟨⟨k + 1, by go_num, by omega, HO9⟩, ?_⟩
            simp [intOf]; omega
      · obtain rfl : k = N := by omega
        have htk : l.take k = l := List.take_of_length_le (by rw [HN.out]; exact Nat.le_refl _)
        rw [htk] at hown
        clear htk
        go_wp2
        go_ret
        exact ⟨_, rfl, by rw [HR.out]; exact hown.out⟩

end Go.Proofs.YtnhlachoimlhhaaGreatDoor

namespace Go.Proofs.YtnhlachoimlhhaaGreatDoor
open Go.ChangeShapes Go.WideShapes Go.ChangeAt Go.RowKit
set_option linter.unusedVariables false
set_option linter.unusedSimpArgs false

def celList (l : List Cel) : List Value := l.flatMap fun c => [.int .i64 c.1, .int .i64 c.2]
theorem celList_snoc (l : List Cel) (c : Cel) : celList (l ++ [c]) = celList l ++ [.int .i64 c.1, .int .i64 c.2] := by simp [celList]
theorem celList_len (l : List Cel) : (celList l).length = l.length * 2 := by
  induction l with
  | nil => rfl
  | cons c l ih => simp only [celList, List.flatMap_cons, List.length_append, List.length_cons, List.length_nil] at *; omega
theorem celList_get (l : List Cel) (i : Nat) (h : i < l.length) : (celList l)[i * 2]? = some (.int .i64 (l.getD i (0, 0)).1) ∧ (celList l)[i * 2 + 1]? = some (.int .i64 (l.getD i (0, 0)).2) := by
  induction l generalizing i with
  | nil => simp at h
  | cons c l ih =>
    cases i with
    | zero => exact ⟨rfl, rfl⟩
    | succ i =>
      have := ih i (by simpa using h)
      have e : celList (c :: l) = [.int .i64 c.1, .int .i64 c.2] ++ celList l := rfl
      rw [e, List.getElem?_append_right (by simp; omega), List.getElem?_append_right (by simp; omega)]
      have e1 : (i + 1) * 2 - [Value.int .i64 c.1, .int .i64 c.2].length = i * 2 := by simp; omega
      have e2 : (i + 1) * 2 + 1 - [Value.int .i64 c.1, .int .i64 c.2].length = i * 2 + 1 := by simp; omega
      rw [e1, e2]
      simpa using this
/-- A row of cells that the call owns from block B on; below B nothing has turned since W0. -/
def CelOwn (B : Nat) (v : Value) (l : List Cel) (W0 w : World) : Prop := w.ownsRow B 188 2 v l.length (celList l) ∧ Below B W0 w ∧ B ≤ w.heap.size
theorem CelOwn.nil (w : World) : CelOwn w.heap.size (.slice none 0 0) [] w w := ⟨World.ownsRow_nil _ _ _ _, Below.refl _ _, Nat.le_refl _⟩
theorem CelOwn.kept {B : Nat} {v : Value} {l : List Cel} {W0 w w' : World} (h : CelOwn B v l W0 w) (hb : Below w.heap.size w w') : CelOwn B v l W0 w' := by
  refine ⟨h.1.kept (row := none) ⟨hb.os, hb.tape, hb.output, hb.size, fun k hk _ => hb.block k hk⟩ ?_, h.2.1.trans (hb.mono h.2.2), Nat.le_trans h.2.2 hb.size⟩
  cases v.ownBlock <;> simp
/-- A row that is not empty, cell by cell. -/
theorem CelOwn.shape {B : Nat} {v : Value} {l : List Cel} {W0 w : World} (h : CelOwn B v l W0 w) (hne : 0 < l.length) : ∃ g c, v = .slice (some ⟨g, 0, none⟩) l.length c ∧ l.length ≤ c ∧ c ≤ 9223372036854775807 ∧ B ≤ g ∧ g < w.heap.size ∧
    (∀ i, i < l.length → w.cell? ⟨g, i * 2, none⟩ = some (.int .i64 (l.getD i (0, 0)).1) ∧ w.cell? ⟨g, i * 2 + 1, none⟩ = some (.int .i64 (l.getD i (0, 0)).2)) ∧ ∀ i, w.frozen? ⟨g, i, none⟩ = false := by
  rcases h.1.2 with ⟨rfl, h0⟩ | ⟨g, cap, cur, rfl, hB, hg, hcap, hcm, _, ht⟩
  · omega
  · have hlt : g < w.heap.size := by
      rcases Nat.lt_or_ge g w.heap.size with hlt | hge
      · exact hlt
      · rw [Array.getElem?_eq_none hge] at hg; cases hg
    have key : ∀ j u, j < l.length * 2 → (celList l)[j]? = some u → w.cell? ⟨g, j, none⟩ = some u := by
      intro j u hj hu
      rw [cell_of_row w g j cur _ _ hg, ← Array.getElem?_toList]
      rw [← ht, List.getElem?_take_of_lt hj] at hu
      exact hu
    refine ⟨g, cap, rfl, hcap, by unfold maxLen at hcm; omega, hB, hlt, fun i hi => ?_, fun i => frozen_of_row w g i _ _ hg⟩
    obtain ⟨a, b⟩ := celList_get l i hi
    exact ⟨key (i * 2) _ (by omega) a, key (i * 2 + 1) _ (by omega) b⟩
theorem CelOwn.at {B : Nat} {v : Value} {l : List Cel} {W0 w : World} (h : CelOwn B v l W0 w) (hl : l.length ≤ 1073741824) (hs : ∀ i, -9223372036854775808 ≤ (l.getD i (0, 0)).2 ∧ (l.getD i (0, 0)).2 ≤ 9223372036854775807) : C2At w v l := by
  refine ⟨?_, hl, hs⟩
  rcases Nat.eq_zero_or_pos l.length with h0 | h0
  · rcases h.1.2 with ⟨rfl, _⟩ | ⟨g, cap, cur, rfl, hB, hg, hcap, hcm, _, ht⟩
    · exact ⟨none, 0, by rw [h0], by omega, by decide, fun i hi => by omega⟩
    · exact ⟨some ⟨g, 0, none⟩, cap, rfl, hcap, by unfold maxLen at hcm; omega, fun i hi => by omega⟩
  · obtain ⟨g, c, e, h1, h2, _, hlt, hc, _⟩ := h.shape h0
    exact ⟨some ⟨g, 0, none⟩, c, e, h1, h2, fun i hi => ⟨g, 0, rfl, hlt, by rw [Nat.zero_add]; exact (hc i hi).1, by rw [Nat.zero_add]; exact (hc i hi).2⟩⟩
/-- The last one's run is written anew. -/
theorem CelOwn.setRun {B g cap : Nat} {l : List Cel} {s r : Int} {W0 w : World} (h : CelOwn B (.slice (some ⟨g, 0, none⟩) (l.length + 1) cap) (l ++ [(s, r)]) W0 w) (r2 : Int) :
    CelOwn B (.slice (some ⟨g, 0, none⟩) (l.length + 1) cap) (l ++ [(s, r2)]) W0 (w.setCell ⟨g, l.length * 2 + 1, none⟩ (.int .i64 r2)) := by
  obtain ⟨h1, h2, h3⟩ := h
  rcases h1.2 with ⟨e, _⟩ | ⟨g', cap', cur, e, hB, hg, hcap, hcm, hsz, ht⟩
  · cases e
  · injection e with e1 _ e2
    injection e1 with e1
    injection e1 with e1 _ _
    subst e1 e2
    refine ⟨⟨celList_len _, .inr ⟨g, cap, cur.setIfInBounds (l.length * 2 + 1) (.int .i64 r2), by rw [List.length_append]; rfl, hB, heap_setCell_same w g _ _ _ _ hg, by rw [List.length_append] at hcap ⊢; exact hcap, hcm, by rw [Array.size_setIfInBounds]; exact hsz, ?_⟩⟩, h2.setCell (p := ⟨g, l.length * 2 + 1, none⟩) hB _, by simpa using h3⟩
    rw [Array.toList_setIfInBounds, List.take_set]
    have hl : (l ++ [(s, r)]).length = (l ++ [(s, r2)]).length := by simp
    rw [← hl, ht, celList_snoc, celList_snoc, List.set_append_right _ _ (by rw [celList_len]; omega), celList_len, show l.length * 2 + 1 - l.length * 2 = 1 by omega]
    rfl
theorem infoC2z : (Tryz.prog.info? 188).map (fun i => (i.zero, i.size, i.bytes)) = some (some (.agg #[.int .i64 0, .int .i64 0]), 2, 16) := by kernel_rfl
/-- One cell appended. -/
theorem wp_cel {ops : Array Oper} {rest : List Oper} {o : Oper} {a : Act} {Q : Exit → Act → World → Prop} (hgd : o.guard = none) (s x : Operand)
    (ho : o.op = .call { callee := .builtin .append, args := #[s, x], argTypes := #[179, 179] })
    (B : Nat) (v : Value) (l : List Cel) (hs : a.eval s = v) (W0 w0 w1 : World) (c : Cel) (hw : w1 = w0.alloc (celBox c)) (hb : CelOwn B v l W0 w0) (H : Nat) (hH : w0.heap.size = H)
    (hx : a.eval x = .slice (some ⟨H, 0, none⟩) 1 1) (hlen : l.length ≤ 1073741824)
    (h : ∀ v' w', CelOwn B v' (l ++ [c]) W0 w' → wpList Tryz.prog ops Q rest (a.put o.dst v') w') : wpList Tryz.prog ops Q (o :: rest) a w1 := by
  obtain ⟨i0, hi, hz0, hz1, hz2⟩ := info_parts infoC2z
  subst hH hw
  have hb' := hb.kept (bel_alloc w0 (celBox c))
  refine wpList_append_own _ hgd s x 179 ho B 188 i0 (.agg #[.int .i64 0, .int .i64 0]) 2 16 Tryz.underlying179 hi hz0 hz1 hz2 rfl (by decide) v l.length (celList l) hs hb'.1 ⟨w0.heap.size, 0, none⟩ 1 1 [.int .i64 c.1, .int .i64 c.2] hx rfl (fun j u hu => ?_) (by intro u hu; simp at hu; rcases hu with rfl | rfl <;> rfl) (by unfold maxLen; omega) (by omega) hb'.2.2 ?_
  · have hadd : (⟨w0.heap.size, 0, none⟩ : Addr).add j = ⟨w0.heap.size, j, none⟩ := by unfold Addr.add; split <;> simp_all
    rw [hadd, cell_of_row _ _ _ _ _ _ (heap_alloc_new w0 (celBox c))]
    simpa using hu
  · intro v' w' ho' hg _
    refine h v' w' ⟨?_, hb'.2.1.grown hg hb'.2.2 (fun k hk => (hb'.1.lt k hk).1), Nat.le_trans hb'.2.2 hg.size⟩
    rw [List.length_append, celList_snoc]
    exact ho'
/-- One state more. -/
def ofStep (acc : List Cel) (s : Int) : List Cel := match acc.getLast? with
  | none => [(s, 1)]
  | some c => if c.1 = s ∧ c.2 < 64 then acc.dropLast ++ [(s, c.2 + 1)] else acc ++ [(s, 1)]
def ofR (l : List Int) : List Cel := if l.all stB = true then l.foldl ofStep [] else []
theorem ofStep_nil (s : Int) : ofStep [] s = [] ++ [(s, 1)] := rfl
theorem ofStep_up (l : List Cel) (s r : Int) (h : r < 64) : ofStep (l ++ [(s, r)]) s = l ++ [(s, r + 1)] := by
  unfold ofStep
  rw [List.getLast?_append]
  simp [h]
theorem ofStep_new (l : List Cel) (t r s : Int) (h : ¬ (t = s ∧ r < 64)) : ofStep (l ++ [(t, r)]) s = (l ++ [(t, r)]) ++ [(s, 1)] := by
  unfold ofStep
  rw [List.getLast?_append]
  simp only [List.getLast?_singleton, Option.some_or]
  rw [if_neg h]
def runsOk (l : List Cel) : Prop := ∀ c ∈ l, 1 ≤ c.2 ∧ c.2 ≤ 64
theorem ofStep_ok (l : List Cel) (s : Int) (h : runsOk l) : runsOk (ofStep l s) ∧ (ofStep l s).length ≤ l.length + 1 := by
  rcases List.eq_nil_or_concat l with rfl | ⟨m, ⟨t, r⟩, rfl⟩
  · exact ⟨fun c hc => by simp [ofStep] at hc; subst hc; exact ⟨by simp, by simp⟩, by simp [ofStep]⟩
  · rw [List.concat_eq_append] at *
    by_cases hh : t = s ∧ r < 64
    · obtain ⟨rfl, hr⟩ := hh
      rw [ofStep_up m t r hr]
      refine ⟨fun c hc => ?_, by simp⟩
      rw [List.mem_append] at hc
      rcases hc with hc | hc
      · exact h c (by rw [List.mem_append]; exact .inl hc)
      · simp at hc
        subst hc
        have := h (t, r) (by simp)
        simp only at this ⊢
        omega
    · rw [ofStep_new m t r s hh]
      refine ⟨fun c hc => ?_, by simp⟩
      rw [List.mem_append] at hc
      rcases hc with hc | hc
      · exact h c hc
      · simp at hc; subst hc; exact ⟨by simp, by simp⟩
end Go.Proofs.YtnhlachoimlhhaaGreatDoor

namespace Go.Proofs.YtnhlachoimlhhaaGreatDoor
open Go.ChangeShapes Go.WideShapes Go.ChangeAt Go.RowKit
set_option linter.unusedVariables false
set_option linter.unusedSimpArgs false

theorem take_snocI (l : List Int) (i : Nat) (h : i < l.length) : l.take (i + 1) = l.take i ++ [l.getD i 0] := by
  rw [List.take_add_one, List.getD_eq_getElem?_getD, List.getElem?_eq_getElem h]; rfl
theorem CelOwn.len {B : Nat} {v : Value} {l : List Cel} {W0 w : World} (h : CelOwn B v l W0 w) : ∃ p c, v = .slice p l.length c := by
  rcases h.1.2 with ⟨rfl, h0⟩ | ⟨g, cap, cur, rfl, _⟩
  · exact ⟨none, 0, by rw [h0]⟩
  · exact ⟨_, cap, rfl⟩
theorem accOk (l : List Int) : ∀ (acc : List Cel), runsOk acc → runsOk (l.foldl ofStep acc) ∧ (l.foldl ofStep acc).length ≤ acc.length + l.length := by
  induction l with
  | nil => intro acc h; exact ⟨h, by simp⟩
  | cons s l ih =>
    intro acc h
    obtain ⟨h1, h2⟩ := ofStep_ok acc s h
    obtain ⟨h3, h4⟩ := ih (ofStep acc s) h1
    exact ⟨h3, by rw [List.foldl_cons, List.length_cons]; omega⟩

set_option maxHeartbeats 8000000 in
set_option maxRecDepth 100000 in
theorem vecOf_any (v : Value) (l : List Int) (w : World) (hv : I64At w v l) :
    Calls Tryz.prog 164 #[v] w fun e w' => ∃ v', e = .returned v' ∧ CelOwn w.heap.size v' (ofR l) w w' := by
  obtain ⟨p, cap, rfl, _, _, hc⟩ := hv.at_
  have HC := Lib.hid hc
  have hlen := hv.len
  obtain ⟨N, hN⟩ : ∃ N, l.length = N := ⟨_, rfl⟩
  have HN := Lib.hid hN
  rw [hN] at HC hlen ⊢
  have HNIL := Lib.hid (CelOwn.nil w)
  clear hc hv hN
  go_enter Tryz.func164, Tryz.ntmps164
  go_wp2
  go_loopw [3, 5, 6, 9] (fun a _ _ i wr => ∃ k : Nat, i = .int .i64 (k : Int) ∧ k ≤ N ∧ Hid ((l.take k).all stB = true) ∧ Hid (CelOwn w.heap.size a ((l.take k).foldl ofStep []) w wr)) (fun _ _ _ i _ => N - (intOf i).toNat)
  case atStart => exact ⟨0, rfl, by omega, Lib.hid rfl, HNIL⟩
  case round =>
    obtain ⟨k, rfl, hk, hall, hown⟩ := hrel
    by_cases hkn : k < N
    · obtain ⟨b, o, rfl, hlt, c0⟩ := HC.out k hkn
      rw [← hown.out.2.1.cell (p := ⟨b, o + k, none⟩) hlt] at c0
      have hts := take_snocI l k (by rw [HN.out]; exact hkn)
      have HIN : Hid (stB (l.getD k 0) = false → l.all stB = false) := Lib.hid (fun hh => by
        rw [List.all_eq_false]
        refine ⟨l.getD k 0, ?_, by rw [hh]; decide⟩
        rw [List.getD_eq_getElem?_getD, List.getElem?_eq_getElem (by rw [HN.out]; exact hkn)]
        exact List.getElem_mem _)
      have HAL : Hid (stB (l.getD k 0) = true → (l.take (k + 1)).all stB = true) := Lib.hid (fun hh => by rw [hts, List.all_append, hall.out, List.all_cons, hh]; rfl)
      have HST : Hid ((l.take (k + 1)).foldl ofStep [] = ofStep ((l.take k).foldl ofStep []) (l.getD k 0)) := Lib.hid (by rw [hts, List.foldl_append]; rfl)
      obtain ⟨hok, hal⟩ := accOk (l.take k) [] (fun c hc => by simp at hc)
      have hal2 : ((l.take k).foldl ofStep []).length ≤ 1073741824 := by
        rw [List.length_take] at hal; simp at hal; omega
      generalize l.getD k 0 = s at *
      generalize (l.take k).foldl ofStep [] = acc at *
      have HIS := Lib.hid (fun W => isState_any s W)
      clear hts hlt hal hall
      cases hs : stB s with
      | false =>
        have HR : Hid (ofR l = []) := Lib.hid (by unfold ofR; rw [HIN.out hs]; rfl)
        rw [hs] at HIS
        clear hs
        have HB : Hid (Below w.heap.size w wr) := Lib.hid hown.out.2.1
        go_wp2_with (go_at_call 184; (with_reducible refine (HIS.out _).mono ?_); rintro e w1 ⟨rfl, rfl⟩)
        go_ret
        exact ⟨_, rfl, by rw [HR.out]; exact ⟨World.ownsRow_nil _ _ _ _, HB.out, HB.out.size⟩⟩
      | true =>
        have HAL2 := Lib.hid (HAL.out hs)
        rw [hs] at HIS
        clear hs HIN HAL
        rcases List.eq_nil_or_concat acc with rfl | ⟨m, ⟨t, r⟩, rfl⟩
        · obtain ⟨q, c, rfl⟩ := hown.out.len
          have hown2 : Hid (CelOwn w.heap.size (.slice q 0 c) [] w wr) := hown
          clear hown
          have hgl : ([] : List Cel).length = 0 := rfl
          rw [hgl]
          clear hgl
          go_upto_region 11 with (first
            | (go_at_call 184; (with_reducible refine (HIS.out _).mono ?_); rintro e w1 ⟨rfl, rfl⟩)
            | (at_builtin; refine wp_cel rfl _ _ rfl w.heap.size (.slice q 0 c) [] rfl w wr _ (s, 1) rfl hown2.out _ rfl rfl (by simp) ?_; intro v2 w9 ho9))
          have HO9 : Hid (CelOwn w.heap.size v2 ((l.take (k + 1)).foldl ofStep []) w w9) := Lib.hid (by rw [HST.out, ofStep_nil]; exact ho9)
          clear ho9 c0 hown2
          go_wp2
          refine ⟨⟨k + 1, by go_num, by omega, HAL2, HO9⟩, ?_⟩
          simp [intOf]; omega
        · rw [List.concat_eq_append] at *
          obtain ⟨g, c, rfl, hgc, hgm, hgB, hglt, hcell, hfr⟩ := hown.out.shape (by simp)
          have hx := hcell m.length (by simp)
          rw [show (m ++ [(t, r)]).getD m.length (0, 0) = (t, r) by simp] at hx
          have hrb := hok (t, r) (by simp)
          obtain ⟨x0, x1⟩ := hx
          simp only at x0 x1 hrb
          have f1 := hfr (m.length * 2 + 1)
          have hgl : (m ++ [(t, r)]).length = m.length + 1 := by simp
          have HOWN : Hid (CelOwn w.heap.size (.slice (some ⟨g, 0, none⟩) (m.length + 1) c) (m ++ [(t, r)]) w wr) := Lib.hid (by have := hown.out; rwa [hgl] at this)
          have HLN : Hid ((m ++ [(t, r)]).length ≤ 1073741824) := Lib.hid hal2
          rw [hgl] at hgc hal2 ⊢
          have HSR : Hid (CelOwn w.heap.size (.slice (some ⟨g, 0, none⟩) (m.length + 1) c) (m ++ [(t, r + 1)]) w (wr.setCell ⟨g, m.length * 2 + 1, none⟩ (.int .i64 (r + 1)))) := Lib.hid (HOWN.out.setRun (r + 1))
          clear hown hcell hfr hgl hok
          obtain ⟨M, hM⟩ : ∃ M, m.length = M := ⟨_, rfl⟩
          rw [hM] at x0 x1 f1 hgc hal2 HOWN HSR ⊢
          clear hM
          by_cases hts : t = s
          · subst hts
            by_cases hr64 : r < 64
            · have d1 := decide_eq_true hr64
              have HUP : Hid (ofStep (m ++ [(t, r)]) t = m ++ [(t, r + 1)]) := Lib.hid (ofStep_up m t r hr64)
              go_upto_region 11 with (go_at_call 184; (with_reducible refine (HIS.out _).mono ?_); rintro e w1 ⟨rfl, rfl⟩)
              clear x0 x1 f1 c0
              have HO9 : Hid (CelOwn w.heap.size (.slice (some ⟨g, 0, none⟩) (M + 1) c) ((l.take (k + 1)).foldl ofStep []) w (wr.setCell ⟨g, M * 2 + 1, none⟩ (.int .i64 (r + 1)))) := Lib.hid (by rw [HST.out, HUP.out]; exact HSR.out)
              generalize wr.setCell ⟨g, M * 2 + 1, none⟩ (.int .i64 (r + 1)) = w9 at *
              go_wp2
              refine ⟨⟨k + 1, by go_num, by omega, HAL2, HO9⟩, ?_⟩
              simp [intOf]; omega
            · have d1 := decide_eq_false hr64
              have HNE : Hid ((64 : Int) ≤ r) := Lib.hid (by omega)
              go_upto_region 11 with (first
                | (go_at_call 184; (with_reducible refine (HIS.out _).mono ?_); rintro e w1 ⟨rfl, rfl⟩)
                | (at_builtin; refine wp_cel rfl _ _ rfl w.heap.size (.slice (some ⟨g, 0, none⟩) (M + 1) c) (m ++ [(t, r)]) rfl w wr _ (t, 1) rfl HOWN.out _ rfl rfl HLN.out ?_; intro v2 w9 ho9))
              have HO9 : Hid (CelOwn w.heap.size v2 ((l.take (k + 1)).foldl ofStep []) w w9) := Lib.hid (by rw [HST.out, ofStep_new m t r t (fun q => by have := HNE.out; omega)]; exact ho9)
              clear ho9 c0 x0 x1 f1 HOWN
              go_wp2
              refine ⟨⟨k + 1, by go_num, by omega, HAL2, HO9⟩, ?_⟩
              simp [intOf]; omega
          · have d1 : (t == s) = false := by rw [beq_eq_false_iff_ne]; exact hts
            have HNE : Hid (¬ (t = s ∧ r < 64)) := Lib.hid (fun q => hts q.1)
            clear hts
            go_upto_region 11 with (first
              | (go_at_call 184; (with_reducible refine (HIS.out _).mono ?_); rintro e w1 ⟨rfl, rfl⟩)
              | (at_builtin; refine wp_cel rfl _ _ rfl w.heap.size (.slice (some ⟨g, 0, none⟩) (M + 1) c) (m ++ [(t, r)]) rfl w wr _ (s, 1) rfl HOWN.out _ rfl rfl HLN.out ?_; intro v2 w9 ho9))
            have HO9 : Hid (CelOwn w.heap.size v2 ((l.take (k + 1)).foldl ofStep []) w w9) := Lib.hid (by rw [HST.out, ofStep_new m t r s HNE.out]; exact ho9)
            clear ho9 c0 x0 x1 f1 HOWN
            go_wp2
            refine ⟨⟨k + 1, by go_num, by omega, HAL2, HO9⟩, ?_⟩
            simp [intOf]; omega
    · obtain rfl : k = N := by omega
      have htk : l.take k = l := List.take_of_length_le (by rw [HN.out]; exact Nat.le_refl _)
      rw [htk] at hown hall
      have HR : Hid (ofR l = l.foldl ofStep []) := Lib.hid (by unfold ofR; rw [hall.out]; rfl)
      clear htk
      go_wp2
      go_ret
      exact ⟨_, rfl, by rw [HR.out]; exact hown.out⟩
theorem beq_ne {t s : Int} (h : (t == s) = false) (e : t = s) : False := by rw [beq_eq_false_iff_ne] at h; exact h e

end Go.Proofs.YtnhlachoimlhhaaGreatDoor

namespace Go.Proofs.YtnhlachoimlhhaaGreatDoor
open Go
set_option linter.unusedVariables false

theorem spread_step (acc : List Cel) (s : Int) (h : runsOk acc) : spreadL (ofStep acc s) = spreadL acc ++ [s] := by
  rcases List.eq_nil_or_concat acc with rfl | ⟨m, ⟨t, r⟩, rfl⟩
  · simp [ofStep, spreadL]
  · rw [List.concat_eq_append] at *
    by_cases hh : t = s ∧ r < 64
    · obtain ⟨rfl, hr⟩ := hh
      rw [ofStep_up m t r hr, spreadL_app, spreadL_app, spreadL_one, spreadL_one]
      have h1 := (h (t, r) (by simp)).1
      simp only at h1
      have e : (r + 1).toNat = r.toNat + 1 := by omega
      simp only [e, List.replicate_succ']
      simp
    · rw [ofStep_new m t r s hh, spreadL_app, spreadL_one]
      simp
theorem spread_of (l : List Int) : ∀ acc, runsOk acc → spreadL (l.foldl ofStep acc) = spreadL acc ++ l := by
  induction l with
  | nil => intro acc _; simp
  | cons s l ih =>
    intro acc h
    rw [List.foldl_cons, ih _ (ofStep_ok acc s h).1, spread_step acc s h]
    simp
theorem mayF_of : ∀ (l : List Cel) (n : Int), (∀ c ∈ l, celB c = true) → n + ((spreadL l).length : Int) ≤ 1000 → mayF n l = true
  | [], _, _, _ => rfl
  | c :: l, n, h, hn => by
    have hc := h c (by simp)
    have hr := (celB_run hc).2
    have e : (spreadL (c :: l)).length = c.2.toNat + (spreadL l).length := by simp [spreadL]
    rw [e] at hn
    unfold mayF
    rw [hc, decide_eq_true (show n + c.2 ≤ 1000 by omega), mayF_of l (n + c.2) (fun d hd => h d (by simp [hd])) (by omega)]
    rfl
/-- No two beside each other that could be one. -/
def sepOk (l : List Cel) : Prop := ∀ i, i + 1 < l.length → ¬ ((l.getD i (0, 0)).1 = (l.getD (i + 1) (0, 0)).1 ∧ (l.getD i (0, 0)).2 < 64)
theorem getD_app (l m : List Cel) (i : Nat) : (l ++ m).getD i (0, 0) = if i < l.length then l.getD i (0, 0) else m.getD (i - l.length) (0, 0) := by
  rw [List.getD_eq_getElem?_getD, List.getD_eq_getElem?_getD, List.getD_eq_getElem?_getD, List.getElem?_append]
  split <;> rfl
theorem sep_step (acc : List Cel) (s : Int) (h : sepOk acc) : sepOk (ofStep acc s) := by
  rcases List.eq_nil_or_concat acc with rfl | ⟨m, ⟨t, r⟩, rfl⟩
  · intro i hi; simp [ofStep] at hi
  · rw [List.concat_eq_append] at *
    by_cases hh : t = s ∧ r < 64
    · obtain ⟨rfl, hr⟩ := hh
      rw [ofStep_up m t r hr]
      intro i hi
      have h1 := h i (by simpa using hi)
      simp only [List.length_append, List.length_cons, List.length_nil] at hi
      rw [getD_app, getD_app, if_pos (by omega)] at h1 ⊢
      split at h1
      · rename_i h2; rw [if_pos h2]; exact h1
      · rename_i h2
        rw [if_neg h2]
        rw [show i + 1 - m.length = 0 by omega] at h1 ⊢
        exact h1
    · rw [ofStep_new m t r s hh]
      intro i hi
      simp only [List.length_append, List.length_cons, List.length_nil] at hi
      have g1 : ((m ++ [(t, r)]) ++ [(s, 1)]).getD i (0, 0) = (m ++ [(t, r)]).getD i (0, 0) := by
        rw [getD_app (m ++ [(t, r)]) [(s, 1)], if_pos (by simp; omega)]
      rw [g1]
      by_cases h2 : i + 1 < (m ++ [(t, r)]).length
      · rw [getD_app (m ++ [(t, r)]) [(s, 1)], if_pos h2]
        exact h i h2
      · have h3 : i = m.length := by simp at h2; omega
        subst h3
        rw [getD_app (m ++ [(t, r)]) [(s, 1)], if_neg h2]
        have e1 : (m ++ [(t, r)]).getD m.length (0, 0) = (t, r) := by simp
        have e2 : ([(s, 1)] : List Cel).getD (m.length + 1 - (m ++ [(t, r)]).length) (0, 0) = (s, 1) := by simp
        rw [e1, e2]
        exact hh
theorem sep_of (l : List Int) : ∀ acc, sepOk acc → sepOk (l.foldl ofStep acc) := by
  induction l with
  | nil => intro acc h; exact h
  | cons s l ih => intro acc h; exact ih _ (sep_step acc s h)
theorem cel_step (acc : List Cel) (s : Int) (hs : stB s = true) (h : ∀ c ∈ acc, celB c = true) : ∀ c ∈ ofStep acc s, celB c = true := by
  have h1 : celB (s, 1) = true := by unfold celB; simp only; rw [hs]; rfl
  rcases List.eq_nil_or_concat acc with rfl | ⟨m, ⟨t, r⟩, rfl⟩
  · intro c hc; simp [ofStep] at hc; subst hc; exact h1
  · rw [List.concat_eq_append] at *
    by_cases hh : t = s ∧ r < 64
    · obtain ⟨rfl, hr⟩ := hh
      rw [ofStep_up m t r hr]
      intro c hc
      rw [List.mem_append] at hc
      rcases hc with hc | hc
      · exact h c (by rw [List.mem_append]; exact .inl hc)
      · simp at hc
        subst hc
        have h2 := (celB_run (h (t, r) (by simp))).2
        simp only at h2
        unfold celB
        simp only
        rw [hs, decide_eq_true (show 1 ≤ r + 1 by omega), decide_eq_true (show r + 1 ≤ 64 by omega)]
        rfl
    · rw [ofStep_new m t r s hh]
      intro c hc
      rw [List.mem_append] at hc
      rcases hc with hc | hc
      · exact h c hc
      · simp at hc; subst hc; exact h1
theorem cel_of (l : List Int) : ∀ acc, l.all stB = true → (∀ c ∈ acc, celB c = true) → ∀ c ∈ l.foldl ofStep acc, celB c = true := by
  induction l with
  | nil => intro acc _ h; exact h
  | cons s l ih =>
    intro acc ha h
    rw [List.all_cons, Bool.and_eq_true] at ha
    exact ih _ ha.2 (cel_step acc s ha.1 h)
/-- Of states that may be, not too many. -/
theorem of_facts (l : List Int) (ha : l.all stB = true) (hl : l.length ≤ 1000) : mayF 0 (ofR l) = true ∧ spreadR (ofR l) = l ∧ sepOk (ofR l) ∧ runsOk (ofR l) ∧ (ofR l).length ≤ l.length := by
  have he : ofR l = l.foldl ofStep [] := if_pos ha
  rw [he]
  have hr0 : runsOk [] := fun c hc => by simp at hc
  have hsp : spreadL (l.foldl ofStep []) = l := by rw [spread_of l [] hr0]; rfl
  have hm : mayF 0 (l.foldl ofStep []) = true := mayF_of _ 0 (cel_of l [] ha (fun c hc => by simp at hc)) (by rw [hsp]; omega)
  refine ⟨hm, ?_, sep_of l [] (fun i hi => by simp at hi), ?_⟩
  · unfold spreadR; rw [if_pos hm]; exact hsp
  · have : ∀ (l : List Int) (acc : List Cel), runsOk acc → runsOk (l.foldl ofStep acc) ∧ (l.foldl ofStep acc).length ≤ acc.length + l.length := by
      intro l
      induction l with
      | nil => intro acc h; exact ⟨h, by simp⟩
      | cons s l ih =>
        intro acc h
        obtain ⟨h1, h2⟩ := ofStep_ok acc s h
        obtain ⟨h3, h4⟩ := ih (ofStep acc s) h1
        exact ⟨h3, by rw [List.foldl_cons, List.length_cons]; omega⟩
    have h2 := this l [] hr0
    exact ⟨h2.1, by simpa using h2.2⟩
end Go.Proofs.YtnhlachoimlhhaaGreatDoor
