/-
  Package rset: pairs in memory; a set's calls as tfrc makes them.
  Package rset: a set over its block: New, Max, and an Update that nothing falls out of.
  Package rset: an Update that nothing falls out of.
-/
import Derived.Test.YtnhlachoimlhhaaGreatDoorBlk
import Derived.Test.YtnhlachoimlhhaaGreatDoorMatW
import Derived.Test.YtnhlachoimlhhaaGreatDoorChecked
import Derived.WalkKit
import Derived.ProofKit
import Derived.LoopTactic
import Derived.Outline
import Derived.RegionTactic
import Derived.BigRegion
import Derived.Deep.RegionWith
import Derived.Deep.RegionHeld3
import Derived.Deep.DrawnRows
import Derived.BigQuiet
import Derived.Deep.QuietTactic
import Derived.Deep.Cut
import Derived.Deep.DeepCutAuto
import Derived.Deep.AppendLies
import Derived.Laws.NewBlocks
import Derived.IntWalk
namespace Go.Proofs.YtnhlachoimlhhaaGreatDoor
open Go.ChangeShapes Go.WideShapes Go.ChangeAt Go.RowKit
set_option linter.unusedVariables false
set_option linter.unusedSimpArgs false

/-- A time and a rate. -/
abbrev Pr := Int × Nat
def prCells (p : Pr) : Array Value := #[.int .i64 p.1, .int .u64 p.2]
def prList (l : List Pr) : List Value := l.flatMap fun p => [.int .i64 p.1, .int .u64 p.2]
theorem prList_app (l m : List Pr) : prList (l ++ m) = prList l ++ prList m := List.flatMap_append
theorem prList_len (l : List Pr) : (prList l).length = l.length * 2 := by
  induction l with
  | nil => rfl
  | cons c l ih => simp only [prList, List.flatMap_cons, List.length_append, List.length_cons, List.length_nil] at *; omega
theorem prList_get (l : List Pr) (i : Nat) (h : i < l.length) : (prList l)[i * 2]? = some (.int .i64 (l.getD i (0, 0)).1) ∧ (prList l)[i * 2 + 1]? = some (.int .u64 (l.getD i (0, 0)).2) := by
  induction l generalizing i with
  | nil => simp at h
  | cons c l ih =>
    cases i with
    | zero => exact ⟨rfl, rfl⟩
    | succ i =>
      have := ih i (by simpa using h)
      have e : prList (c :: l) = [.int .i64 c.1, .int .u64 c.2] ++ prList l := rfl
      rw [e, List.getElem?_append_right (by simp; omega), List.getElem?_append_right (by simp; omega)]
      have e1 : (i + 1) * 2 - [Value.int .i64 c.1, .int .u64 c.2].length = i * 2 := by simp; omega
      have e2 : (i + 1) * 2 + 1 - [Value.int .i64 c.1, .int .u64 c.2].length = i * 2 + 1 := by simp; omega
      rw [e1, e2]
      simpa using this
theorem infoPr : (Tryz.prog.info? 193).map (fun i => (i.zero, i.size, i.bytes)) = some (some (.agg #[.int .i64 0, .int .u64 0]), 2, 16) := by kernel_rfl
/-- The blocks that a slice owns. -/
def own (v : Value) : List Nat := v.ownBlock.toList
theorem own_some (g n c : Nat) : own (.slice (some ⟨g, 0, none⟩) n c) = [g] := rfl
/-- A row of pairs that lies at its block's head. -/
def PrRow (l : List Pr) (v : Value) (w : World) : Prop := w.ownsRow 0 193 2 v l.length (prList l)
theorem PrRow.kept {l : List Pr} {v : Value} {S : List Nat} {w w' : World} (h : PrRow l v w) (k : Kept S w w') (hn : ∀ g, v.ownBlock = some g → g ∉ S) : PrRow l v w' := by
  refine ⟨h.1, ?_⟩
  rcases h.2 with hv | ⟨g, cap, cur, rfl, hb, hg, rest⟩
  · exact .inl hv
  · exact .inr ⟨g, cap, cur, rfl, hb, (k.block g (Array.getElem?_eq_some_iff.1 hg).1 (hn g rfl)).trans hg, rest⟩
/-- A row that is not empty, cell by cell. -/
theorem PrRow.shape {l : List Pr} {v : Value} {w : World} (h : PrRow l v w) (hl : 0 < l.length) : ∃ g c, v = .slice (some ⟨g, 0, none⟩) l.length c ∧ l.length ≤ c ∧ c ≤ 9223372036854775807 ∧ g < w.heap.size ∧
    (∀ i, i < l.length → w.cell? ⟨g, i * 2, none⟩ = some (.int .i64 (l.getD i (0, 0)).1) ∧ w.cell? ⟨g, i * 2 + 1, none⟩ = some (.int .u64 (l.getD i (0, 0)).2)) ∧ (∀ i, w.frozen? ⟨g, i, none⟩ = false) ∧ ∃ cur, w.heap[g]? = some (.cells cur 193 (0, 0)) := by
  rcases h.2 with ⟨rfl, h0⟩ | ⟨g, cap, cur, rfl, hB, hg, hcap, hcm, _, ht⟩
  · omega
  · have hlt : g < w.heap.size := (Array.getElem?_eq_some_iff.1 hg).1
    have key : ∀ j u, j < l.length * 2 → (prList l)[j]? = some u → w.cell? ⟨g, j, none⟩ = some u := by
      intro j u hj hu
      rw [cell_of_row w g j cur _ _ hg, ← Array.getElem?_toList]
      rw [← ht, List.getElem?_take_of_lt hj] at hu
      exact hu
    refine ⟨g, cap, rfl, hcap, by unfold maxLen at hcm; omega, hlt, fun i hi => ?_, fun i => frozen_of_row w g i _ _ hg, cur, hg⟩
    obtain ⟨a, b⟩ := prList_get l i hi
    exact ⟨key (i * 2) _ (by omega) a, key (i * 2 + 1) _ (by omega) b⟩
set_option maxHeartbeats 1000000 in
set_option maxRecDepth 100000 in
/-- slices.Insert at the end: append. -/
theorem insertPr_end (l : List Pr) (hl : l.length ≤ 1000) (p : Pr) (v : Value) (E : Nat) (w : World) (hr : PrRow l v w) (hE : BlkIs (prCells p) 193 E w) (h0 : 0 < l.length) :
    Calls Tryz.prog 253 #[v, .int .i64 l.length, .slice (some ⟨E, 0, none⟩) 1 1] w fun e w' => ∃ g c, e = .returned (.slice (some ⟨g, 0, none⟩) (l.length + 1) c) ∧ PrRow (l ++ [p]) (.slice (some ⟨g, 0, none⟩) (l.length + 1) c) w' ∧ Kept (own v) w w' ∧ (v.ownBlock = some g ∨ w.heap.size ≤ g) := by
  obtain ⟨i0, hi, hz0, hz1, hz2⟩ := info_parts infoPr
  have HR := Lib.hid hr
  have HE := Lib.hid hE
  obtain ⟨g, c, rfl, hc1, hc2, hg, hcell, _, _⟩ := hr.shape h0
  have HNEWS : Hid (∀ j u, (prCells p).toList[j]? = some u → w.cell? ((⟨E, 0, none⟩ : Addr).add j) = some u) := Lib.hid (World.news_of_block hE)
  have HL := Lib.hid hl
  have HP := Lib.hid (prList_app l [p])
  obtain ⟨N, hN⟩ : ∃ N, l.length = N := ⟨_, rfl⟩
  have HNe := Lib.hid hN
  rw [hN] at h0 hc1 hl ⊢
  clear hr hE hcell hN
  have HONE : Hid (∀ u ∈ (prCells p).toList, u.oneCell' = true) := Lib.hid (by intro u hu; simp [prCells] at hu; rcases hu with rfl | rfl <;> rfl)
  have HR2 : Hid (w.ownsRow 0 193 2 (.slice (some ⟨g, 0, none⟩) N c) N (prList l)) := Lib.hid (by have := HR.out; unfold PrRow at this; rw [HNe.out] at this; exact this)
  by_cases hcN : c = N
  all_goals
    go_enter Tryz.func253, Tryz.ntmps253
    go_wp2_with (at_builtin; (refine wpList_append_lies _ rfl _ _ 194 rfl 0 193 i0 (.agg #[.int .i64 0, .int .u64 0]) 2 16 Tryz.underlying194 hi hz0 hz1 hz2 rfl (by decide) _ _ _ rfl HR2.out ⟨E, 0, none⟩ 1 1 (prCells p).toList rfl rfl HNEWS.out HONE.out (by decide) (by unfold maxLen; omega) (by omega) (Nat.zero_le _) _ rfl ?_; intro g2 cap2 w1 hown hgrow hat hlt))
    go_ret
    refine ⟨g2, cap2, rfl, ?_, (Kept.refl _ _).grown hgrow (fun k hk => .inl (by cases hk; simp [own, Value.ownBlock])), ?_⟩
    · unfold PrRow
      rw [HP.out, List.length_append, HNe.out]
      exact hown
    · rcases hat with h | h
      · exact .inl h
      · exact .inr (by omega)
end Go.Proofs.YtnhlachoimlhhaaGreatDoor

namespace Go.Proofs.YtnhlachoimlhhaaGreatDoor
open Go.ChangeShapes Go.WideShapes Go.ChangeAt Go.RowKit
set_option linter.unusedVariables false
set_option linter.unusedSimpArgs false

theorem upd1_any (p : Pr) (Bx : Nat) (least : Int) (w : World) (hc : w.cell? ⟨Bx, 0, none⟩ = some (.int .i64 least)) :
    Calls Tryz.prog 223 #[.agg #[.int .i64 p.1, .int .u64 p.2], .pointer (some ⟨Bx, 0, none⟩)] w fun e w' => e = .returned (.bool (decide (p.1 < least))) ∧ Below w.heap.size w w' := by
  have hlt : Bx < w.heap.size := World.block_lt_of_cell? w _ hc
  have hc2 : ∀ o, (w.alloc o).cell? ⟨Bx, 0, none⟩ = some (.int .i64 least) := fun o => by rw [(bel_alloc w o).cell (p := ⟨Bx, 0, none⟩) hlt]; exact hc
  obtain ⟨a, x⟩ := p
  simp only
  clear hc
  go_enter Tryz.func223, Tryz.ntmps223
  go_wp2
  go_ret
  exact ⟨rfl, bel_alloc _ _⟩
set_option maxHeartbeats 1000000 in
theorem indexFunc_none (l : List Pr) (hl : l.length ≤ 1000) (v : Value) (Bx : Nat) (least : Int) (w : World) (hr : PrRow l v w) (hc : w.cell? ⟨Bx, 0, none⟩ = some (.int .i64 least)) (h0 : 0 < l.length)
    (hall : ∀ i, i < l.length → least ≤ (l.getD i (0, 0)).1) :
    Calls Tryz.prog 254 #[v, .func (.func 223) #[] #[.pointer (some ⟨Bx, 0, none⟩)]] w fun e w' => e = .returned (.int .i64 (-1)) ∧ Below w.heap.size w w' := by
  have hlt : Bx < w.heap.size := World.block_lt_of_cell? w _ hc
  have HC := Lib.hid hc
  obtain ⟨g, c, rfl, hc1, hc2, hg, hcell, _, _⟩ := hr.shape h0
  have HCELL := Lib.hid hcell
  have HALL := Lib.hid hall
  obtain ⟨N, hN⟩ : ∃ N, l.length = N := ⟨_, rfl⟩
  rw [hN] at h0 hc1 hl HCELL HALL ⊢
  clear hr hcell hc hall hN
  go_enter Tryz.func254, Tryz.ntmps254
  go_wp2
  go_loopw [8] (fun i wr => ∃ k : Nat, k ≤ N ∧ i = .int .i64 (k : Int) ∧ Hid (Below w.heap.size w wr)) (fun i _ => N - (intOf i).toNat)
  case atStart => exact ⟨0, Nat.zero_le _, rfl, Lib.hid (Below.refl _ _)⟩
  case round =>
    obtain ⟨k, hk, rfl, hb⟩ := hrel
    by_cases hlt2 : k < N
    · obtain ⟨x0, x1⟩ := HCELL.out k hlt2
      have hle := HALL.out k hlt2
      rw [← hb.out.cell (p := ⟨g, k * 2, none⟩) hg] at x0
      rw [← hb.out.cell (p := ⟨g, k * 2 + 1, none⟩) hg] at x1
      have HU := Lib.hid (upd1_any (l.getD k (0, 0)) Bx least wr (by rw [hb.out.cell (p := ⟨Bx, 0, none⟩) hlt]; exact HC.out))
      generalize l.getD k (0, 0) = p at *
      obtain ⟨a, x⟩ := p
      simp only at x0 x1 hle HU
      rw [decide_eq_false (by omega)] at HU
      clear hle
      go_wp2_with (go_at_call 223; (with_reducible refine HU.out.mono ?_); rintro e w1 ⟨rfl, hb1⟩)
      go_roundw
      case rel => exact ⟨k + 1, by omega, by go_num, Lib.hid (bel_trans hb.out hb1)⟩
      case measure => simp [intOf]; omega
    · go_wp2
      go_ret
      exact ⟨rfl, hb.out⟩
theorem deleteFunc_none (l : List Pr) (hl : l.length ≤ 1000) (v : Value) (Bx : Nat) (least : Int) (w : World) (hr : PrRow l v w) (hc : w.cell? ⟨Bx, 0, none⟩ = some (.int .i64 least)) (h0 : 0 < l.length)
    (hall : ∀ i, i < l.length → least ≤ (l.getD i (0, 0)).1) :
    Calls Tryz.prog 222 #[v, .func (.func 223) #[] #[.pointer (some ⟨Bx, 0, none⟩)]] w fun e w' => e = .returned v ∧ Below w.heap.size w w' := by
  have HI := Lib.hid (indexFunc_none l hl v Bx least w hr hc h0 hall)
  obtain ⟨g, c, rfl, _⟩ := hr.shape h0
  clear hr hc hall
  go_enter Tryz.func222, Tryz.ntmps222
  go_wp2_with (go_at_call 254; (with_reducible refine HI.out.mono ?_); rintro e w1 ⟨rfl, hb1⟩)
  go_ret
  exact ⟨rfl, hb1⟩
theorem deletePr_none (g n c : Nat) (h1 : n ≤ c) (h2 : c ≤ 9223372036854775807) (w : World) :
    Calls Tryz.prog 224 #[.slice (some ⟨g, 0, none⟩) n c, .int .i64 0, .int .i64 0] w fun e w' => e = .returned (.slice (some ⟨g, 0, none⟩) n c) ∧ w' = w := by
  go_enter Tryz.func224, Tryz.ntmps224
  go_wp2
  go_ret
  exact ⟨rfl, rfl⟩
/-- A set at block P, its row's value v. -/
structure SetAt (l : List Pr) (P : Nat) (v : Value) (w : World) : Prop where
  set : BlkIs #[v] 196 P w
  row : PrRow l v w
theorem SetAt.ne {l : List Pr} {P : Nat} {v : Value} {w : World} (h : SetAt l P v w) (g : Nat) (hg : v.ownBlock = some g) : g ≠ P := by
  intro e
  subst e
  rcases h.row.2 with ⟨rfl, _⟩ | ⟨g', cap, cur, rfl, hB, hg', _⟩
  · cases hg
  · have h1 := h.set
    unfold BlkIs at h1
    have e : g' = g := by simpa [Value.ownBlock] using hg
    subst e
    rw [hg'] at h1
    simp at h1
theorem SetAt.kept {l : List Pr} {P : Nat} {v : Value} {S : List Nat} {w w' : World} (h : SetAt l P v w) (k : Kept S w w') (h1 : P ∉ S) (h2 : ∀ g, v.ownBlock = some g → g ∉ S) : SetAt l P v w' := ⟨h.set.kept k h1, h.row.kept k h2⟩
theorem SetAt.below {l : List Pr} {P : Nat} {v : Value} {w w' : World} (h : SetAt l P v w) (k : Below w.heap.size w w') : SetAt l P v w' := h.kept (Kept.of_below [] k) (by simp) (by simp)
theorem SetAt.drewN {l : List Pr} {P : Nat} {v : Value} {w : World} (h : SetAt l P v w) (n : Nat) : SetAt l P v (w.drewN n) := ⟨h.set, h.row⟩
def M.top : Nat := 18446744073709551615
theorem rsetNew_any (w : World) : Calls Tryz.prog 113 #[] w fun e w' => ∃ P v, e = .returned (.pointer (some ⟨P, 0, none⟩)) ∧ SetAt [(0, 18446744073709551615)] P v w' ∧ w.heap.size ≤ P ∧ (∀ g, v.ownBlock = some g → w.heap.size ≤ g) ∧ Below w.heap.size w w' := by
  go_enter Tryz.func113, Tryz.ntmps113
  go_wp2
  go_ret
  refine ⟨w.heap.size + 1, .slice (some ⟨w.heap.size, 0, none⟩) 1 1, rfl, ⟨?_, ?_⟩, by omega, ?_, bel_trans (bel_alloc _ _) (bel_alloc _ _)⟩
  · have h := BlkIs.new #[.slice (some ⟨w.heap.size, 0, none⟩) 1 1] 196 (w.alloc (.cells #[.int .i64 0, .int .u64 18446744073709551615] 193))
    simp only [World.size_alloc] at h
    exact h
  · have hb := BlkIs.alloc (BlkIs.new #[.int .i64 0, .int .u64 18446744073709551615] 193 w) (.cells #[.slice (some ⟨w.heap.size, 0, none⟩) 1 1] 196)
    exact ⟨rfl, .inr ⟨w.heap.size, 1, _, rfl, Nat.zero_le _, hb, by decide, by decide, rfl, rfl⟩⟩
  · intro g hg
    have : w.heap.size = g := by simpa [Value.ownBlock] using hg
    omega
def M.maxPr (l : List Pr) : Nat := l.foldl (fun m p => max m p.2) 0
theorem take_snocP (l : List Pr) (i : Nat) (h : i < l.length) : l.take (i + 1) = l.take i ++ [l.getD i (0, 0)] := by
  rw [List.take_add_one, List.getD_eq_getElem?_getD, List.getElem?_eq_getElem h]; rfl
theorem M.maxPr_snoc (l : List Pr) (p : Pr) : M.maxPr (l ++ [p]) = max (M.maxPr l) p.2 := by unfold M.maxPr; rw [List.foldl_append]; rfl
set_option maxHeartbeats 2000000 in
theorem rsetMax_any (l : List Pr) (hl : l.length ≤ 1000) (h0 : 0 < l.length) (P : Nat) (v : Value) (w : World) (h : SetAt l P v w) :
    Calls Tryz.prog 150 #[.pointer (some ⟨P, 0, none⟩)] w fun e w' => e = .returned (.int .u64 (M.maxPr l)) ∧ Below w.heap.size w w' := by
  have c0 : w.cell? ⟨P, 0, none⟩ = some v := BlkIs.cell h.set 0
  obtain ⟨g, c, rfl, hc1, hc2, hg, hcell, _, _⟩ := h.row.shape h0
  have HCELL := Lib.hid hcell
  obtain ⟨N, hN⟩ : ∃ N, l.length = N := ⟨_, rfl⟩
  have HN := Lib.hid hN
  rw [hN] at h0 hc1 hl HCELL c0
  clear h hcell hN
  go_enter Tryz.func150, Tryz.ntmps150
  go_wp2
  go_loopw [3, 13] (fun a i wr => ∃ k : Nat, k ≤ N ∧ i = .int .i64 (k : Int) ∧ a = .int .u64 (M.maxPr (l.take k)) ∧ Hid (Below w.heap.size w wr)) (fun _ i _ => N - (intOf i).toNat)
  case atStart => exact ⟨0, Nat.zero_le _, rfl, rfl, Lib.hid (Below.refl _ _)⟩
  case round =>
    obtain ⟨k, hk, rfl, rfl, hb⟩ := hrel
    by_cases hlt2 : k < N
    · obtain ⟨x0, x1⟩ := HCELL.out k hlt2
      rw [← hb.out.cell (p := ⟨g, k * 2, none⟩) hg] at x0
      rw [← hb.out.cell (p := ⟨g, k * 2 + 1, none⟩) hg] at x1
      have e : Hid (M.maxPr (l.take (k + 1)) = max (M.maxPr (l.take k)) (l.getD k (0, 0)).2) := Lib.hid (by rw [take_snocP l k (by rw [HN.out]; exact hlt2), M.maxPr_snoc])
      generalize l.getD k (0, 0) = p at *
      obtain ⟨a, x⟩ := p
      simp only at x0 x1 e
      generalize M.maxPr (l.take k) = m at *
      obtain ⟨R, hR⟩ : ∃ R, max m x = R := ⟨_, rfl⟩
      have i1 : (if (m : Int) < (x : Int) then (x : Int) else (m : Int)) = (R : Int) := by split <;> omega
      have i2 : max (m : Int) (x : Int) = (R : Int) := by omega
      have i3 : (if m < x then (x : Int) else (m : Int)) = (R : Int) := by split <;> omega
      rw [hR] at e
      clear hR
      go_wp2
      go_roundw
      case rel => exact ⟨k + 1, by omega, by go_num, by rw [e.out], Lib.hid (bel_trans hb.out (bel_trans (bel_alloc _ _) (by first | exact (Below.refl _ _).setCell (Nat.le_refl _) _ | exact Below.refl _ _)))⟩
      case measure => simp [intOf]; omega
    · have e : Hid (M.maxPr l = M.maxPr (l.take k)) := Lib.hid (by rw [List.take_of_length_le (by rw [HN.out]; omega)])
      generalize M.maxPr (l.take k) = m at *
      go_wp2
      go_ret
      exact ⟨M.ret_int (by rw [e.out]), hb.out⟩
theorem rsetWithin_any (n m : Int) (hm : 0 ≤ m) (w : World) : Calls Tryz.prog 220 #[.int .i64 n, .int .i64 m] w fun e w' => e = .returned (.int .i64 (max 0 (min n m))) ∧ w = w' := by
  obtain ⟨E, hE⟩ : ∃ E, (if m < n then m else n) = E := ⟨_, rfl⟩
  obtain ⟨F, hF⟩ : ∃ F, (if 0 < E then E else 0) = F := ⟨_, rfl⟩
  have e : Hid (max 0 (min n m) = F) := Lib.hid (by rw [← hF, ← hE]; split <;> split <;> omega)
  go_enter Tryz.func220, Tryz.ntmps220
  go_wp2
  go_ret
  exact ⟨M.ret_int e.out.symm, rfl⟩
set_option maxHeartbeats 2000000 in
set_option maxRecDepth 100000 in
/-- A pair that is no elder than the last one goes behind all. -/
theorem rsetPut_end (l : List Pr) (hl : l.length ≤ 900) (h0 : 0 < l.length) (p : Pr) (hlast : (l.getD (l.length - 1) (0, 0)).1 ≤ p.1) (P : Nat) (v : Value) (w : World) (h : SetAt l P v w) :
    Calls Tryz.prog 221 #[.pointer (some ⟨P, 0, none⟩), .agg #[.int .i64 p.1, .int .u64 p.2]] w fun e w' => e = .returned (.tuple #[]) ∧ ∃ g c, SetAt (l ++ [p]) P (.slice (some ⟨g, 0, none⟩) (l.length + 1) c) w' ∧ Kept (P :: own v) w w' ∧ (v.ownBlock = some g ∨ w.heap.size ≤ g) := by
  have HH := Lib.hid h
  have c0 : w.cell? ⟨P, 0, none⟩ = some v := BlkIs.cell h.set 0
  have f0 := BlkIs.free h.set 0
  have hP := h.set.lt
  obtain ⟨g, c, rfl, hc1, hc2, hg, hcell, _, _⟩ := h.row.shape h0
  obtain ⟨x0, x1⟩ := hcell (l.length - 1) (by omega)
  obtain ⟨q, hq⟩ : ∃ q, l.getD (l.length - 1) (0, 0) = q := ⟨_, rfl⟩
  rw [hq] at x0 x1 hlast
  have HINS : Hid (∀ E W, PrRow l (.slice (some ⟨g, 0, none⟩) l.length c) W → BlkIs (prCells p) 193 E W → _) := Lib.hid (fun E W hr hE => insertPr_end l (by omega) p _ E W hr hE h0)
  obtain ⟨N, hN⟩ : ∃ N, l.length = N := ⟨_, rfl⟩
  have HNe := Lib.hid hN
  rw [hN] at h0 hc1 hl x0 x1 c0 HINS HH ⊢
  obtain ⟨a, x⟩ := p
  obtain ⟨b, y⟩ := q
  simp only at hlast x0 x1
  clear h hcell hq hN x1
  have hk1 : ((N : Int) - 1).toNat = N - 1 := by omega
  have hk2 : (0 : Int) ≤ (N : Int) - 1 := by omega
  have hk3 : (N : Int) - 1 < (N : Int) := by omega
  have hd : decide (a < b) = false := decide_eq_false (by omega)
  have hd0 : decide ((0 : Int) < (N : Int)) = true := decide_eq_true (by omega)
  have hw1 : IntKind.i64.wrap ((N : Int) - 1) = (N : Int) - 1 := IntWalk.i64_in _ (by omega)
  have hB : ∀ o, Below w.heap.size w (w.alloc o) := fun o => bel_alloc w o
  have y0 : ∀ o, (w.alloc o).cell? ⟨g, (N - 1) * 2, none⟩ = some (.int .i64 b) := fun o => by rw [(bel_alloc w o).cell (p := ⟨g, (N - 1) * 2, none⟩) hg]; exact x0
  have z0 : ∀ o, (w.alloc o).cell? ⟨P, 0, none⟩ = some (.slice (some ⟨g, 0, none⟩) N c) := fun o => by rw [(bel_alloc w o).cell (p := ⟨P, 0, none⟩) hP]; exact c0
  have HB1 : Hid (BlkIs (prCells (a, x)) 193 w.heap.size (w.alloc (.cells #[.int .i64 a, .int .u64 x] 193))) := Lib.hid (BlkIs.new _ _ _)
  have HS1 : Hid (SetAt l P (.slice (some ⟨g, 0, none⟩) N c) (w.alloc (.cells #[.int .i64 a, .int .u64 x] 193))) := Lib.hid (HH.out.below (bel_alloc _ _))
  have HK1 : Hid (Kept [] w (w.alloc (.cells #[.int .i64 a, .int .u64 x] 193))) := Lib.hid (Kept.of_below _ (bel_alloc _ _))
  have w0 : (w.alloc (.cells #[.int .i64 a, .int .u64 x] 193)).cell? ⟨w.heap.size, 0, none⟩ = some (.int .i64 a) := BlkIs.cell HB1.out 0
  have w1 : (w.alloc (.cells #[.int .i64 a, .int .u64 x] 193)).cell? ⟨w.heap.size, 1, none⟩ = some (.int .u64 x) := BlkIs.cell HB1.out 1
  have y0' := y0 (.cells #[.int .i64 a, .int .u64 x] 193)
  have z0' := z0 (.cells #[.int .i64 a, .int .u64 x] 193)
  have HSZ : Hid (P < w.heap.size ∧ g < w.heap.size) := Lib.hid ⟨hP, hg⟩
  clear hB y0 z0 x0 c0 f0 hP hg
  go_enter Tryz.func221, Tryz.ntmps221
  go_wp2
  generalize w.alloc (.cells #[.int .i64 a, .int .u64 x] 193) = W1 at *
  have hH : w.heap.size = w.heap.size := rfl
  obtain ⟨H, hH⟩ : ∃ H, w.heap.size = H := ⟨_, rfl⟩
  rw [hH] at HB1 w0 w1 HSZ ⊢
  have HHe := Lib.hid hH
  clear hH
  refine wp_loop_rounds 1 ?_
  rw [rounds_succ]
  go_wp2
  go_quiet (fail)
  have HB2 : Hid (BlkIs (prCells (a, x)) 193 H (W1.drewN nq)) := Lib.hid (BlkIs.drewN HB1.out nq)
  have HS2 : Hid (SetAt l P (.slice (some ⟨g, 0, none⟩) N c) (W1.drewN nq)) := Lib.hid (HS1.out.drewN nq)
  have HK2 : Hid (Kept [] w (W1.drewN nq)) := Lib.hid (HK1.out.drewN nq)
  clear HB1 HS1 HK1 w0 w1 y0' z0'
  generalize W1.drewN nq = W2 at *
  have c0 : W2.cell? ⟨P, 0, none⟩ = some (.slice (some ⟨g, 0, none⟩) N c) := BlkIs.cell HS2.out.set 0
  have b0 : W2.cell? ⟨H, 0, none⟩ = some (.int .i64 a) := BlkIs.cell HB2.out 0
  have b1 : W2.cell? ⟨H, 1, none⟩ = some (.int .u64 x) := BlkIs.cell HB2.out 1
  clear hd hd0 hk1 hk2 hk3 hw1
  have HNE : Hid (P ≠ g ∧ H ≠ g) := Lib.hid ⟨fun e => HS2.out.ne g rfl e.symm, by have := HSZ.out; omega⟩
  have HI : Hid (Calls Tryz.prog 253 #[.slice (some ⟨g, 0, none⟩) N c, .int .i64 N, .slice (some ⟨W2.heap.size, 0, none⟩) 1 1] (W2.alloc (.cells #[.int .i64 a, .int .u64 x] 193)).drew fun e w' => ∃ g2 c2, e = .returned (.slice (some ⟨g2, 0, none⟩) (N + 1) c2) ∧ PrRow (l ++ [(a, x)]) (.slice (some ⟨g2, 0, none⟩) (N + 1) c2) w' ∧ (g2 = g ∨ w.heap.size ≤ g2) ∧ BlkIs #[.slice (some ⟨g, 0, none⟩) N c] 196 P w' ∧ BlkIs (prCells (a, x)) 193 H w' ∧ Kept [g] w w') := Lib.hid (by
    have k0 : Kept [g] w (W2.alloc (.cells #[.int .i64 a, .int .u64 x] 193)).drew := ((HK2.out.more (fun x hx => by cases hx)).alloc _).drew
    have s0 : SetAt l P (.slice (some ⟨g, 0, none⟩) N c) (W2.alloc (.cells #[.int .i64 a, .int .u64 x] 193)).drew := HS2.out.kept (((Kept.refl [] _).alloc _).drew) (by simp) (by simp)
    have e0 : BlkIs (prCells (a, x)) 193 W2.heap.size (W2.alloc (.cells #[.int .i64 a, .int .u64 x] 193)).drew := BlkIs.new _ _ _
    have h0 : BlkIs (prCells (a, x)) 193 H (W2.alloc (.cells #[.int .i64 a, .int .u64 x] 193)).drew := BlkIs.kept HB2.out (((Kept.refl [] _).alloc _).drew) (by simp)
    refine (HINS.out _ _ s0.row e0).mono ?_
    rintro e w3 ⟨g3, c3, rfl, hr3, hk3, hat3⟩
    rw [own_some] at hk3
    refine ⟨g3, c3, rfl, hr3, ?_, s0.set.kept hk3 (by simp; exact HNE.out.1), h0.kept hk3 (by simp; exact HNE.out.2), k0.trans' hk3⟩
    rcases hat3 with h | h
    · left
      have : g = g3 := by simpa [Value.ownBlock] using h
      exact this.symm
    · right
      have := k0.size
      omega)
  have n0 : ∀ o, (W2.alloc o).cell? ⟨P, 0, none⟩ = some (.slice (some ⟨g, 0, none⟩) N c) := fun o => by rw [World.cell?_alloc_some _ _ _ (by rw [c0]; rfl)]; exact c0
  have n1 : ∀ o, (W2.alloc o).cell? ⟨H, 0, none⟩ = some (.int .i64 a) := fun o => by rw [World.cell?_alloc_some _ _ _ (by rw [b0]; rfl)]; exact b0
  have n2 : ∀ o, (W2.alloc o).cell? ⟨H, 1, none⟩ = some (.int .u64 x) := fun o => by rw [World.cell?_alloc_some _ _ _ (by rw [b1]; rfl)]; exact b1
  go_wp2
  go_region_with ((go_at_call 253; refine HI.out.mono ?_; rintro e w3 ⟨g3, c3, rfl, hr3, hat3, hs3, hb3, hk3⟩; have m0 : w3.cell? ⟨P, 0, none⟩ = some (.slice (some ⟨g, 0, none⟩) N c) := BlkIs.cell hs3 0; have m1 := BlkIs.free hs3 0; have m2 : w3.cell? ⟨H, 0, none⟩ = some (.int .i64 a) := BlkIs.cell hb3 0; have m3 : w3.cell? ⟨H, 1, none⟩ = some (.int .u64 x) := BlkIs.cell hb3 1))
  all_goals
   go_wp2
   go_end0
   refine ⟨rfl, g3, c3, ⟨BlkIs.set hs3 0 _, ?_⟩, (hk3.more (fun x hx => by simp at hx; subst hx; simp [own, Value.ownBlock])).setCell (.inl (by simp)) _, ?_⟩
   · have hne : g3 ≠ P := by
       rcases hat3 with h | h
       · rw [h]; exact fun e => HNE.out.1 e.symm
       · have := HSZ.out; have := HHe.out; omega
     exact PrRow.kept hr3 ((Kept.refl [P] w3).setCell (.inl (by simp)) _) (fun q hq => by
       have : g3 = q := by simpa [Value.ownBlock] using hq
       simp; omega)
   · rcases hat3 with h | h
     · exact .inl (by rw [h]; rfl)
     · exact .inr h
end Go.Proofs.YtnhlachoimlhhaaGreatDoor

namespace Go.Proofs.YtnhlachoimlhhaaGreatDoor
open Go.ChangeShapes Go.WideShapes Go.ChangeAt Go.RowKit
set_option linter.unusedVariables false
set_option linter.unusedSimpArgs false

theorem getD_snoc (l : List Pr) (p : Pr) (i : Nat) (hi : i < (l ++ [p]).length) : (i < l.length ∧ (l ++ [p]).getD i (0, 0) = l.getD i (0, 0)) ∨ (i = l.length ∧ (l ++ [p]).getD i (0, 0) = p) := by
  rw [List.length_append] at hi
  by_cases h : i < l.length
  · exact .inl ⟨h, by rw [List.getD_eq_getElem?_getD, List.getElem?_append_left h, ← List.getD_eq_getElem?_getD]⟩
  · have : i = l.length := by simp at hi; omega
    subst this
    exact .inr ⟨rfl, by rw [List.getD_eq_getElem?_getD, List.getElem?_append_right (Nat.le_refl _)]; simp⟩
set_option maxHeartbeats 2000000 in
set_option maxRecDepth 100000 in
/-- An Update behind all, of which nothing is too old. -/
theorem rsetUpdate_keep (l : List Pr) (hl : l.length ≤ 7) (h0 : 0 < l.length) (x : Nat) (now r : Int) (hlast : (l.getD (l.length - 1) (0, 0)).1 ≤ max 0 (min now 4611686018427387904))
    (hall : ∀ i, i < l.length → max 0 (min now 4611686018427387904) - 2 * max 0 (min r 1099511627776) ≤ (l.getD i (0, 0)).1) (P : Nat) (v : Value) (w : World) (h : SetAt l P v w) :
    Calls Tryz.prog 199 #[.pointer (some ⟨P, 0, none⟩), .int .u64 x, .int .i64 now, .int .i64 r] w fun e w' => e = .returned (.tuple #[]) ∧ ∃ g c, SetAt (l ++ [(max 0 (min now 4611686018427387904), x)]) P (.slice (some ⟨g, 0, none⟩) (l.length + 1) c) w' ∧ Kept (P :: own v) w w' ∧ (v.ownBlock = some g ∨ w.heap.size ≤ g) := by
  have HN := Lib.hid (fun W => rsetWithin_any now 4611686018427387904 (by decide) W)
  have HRr := Lib.hid (fun W => rsetWithin_any r 1099511627776 (by decide) W)
  obtain ⟨A, hA⟩ : ∃ A, max 0 (min now 4611686018427387904) = A := ⟨_, rfl⟩
  obtain ⟨R, hR⟩ : ∃ A, max 0 (min r 1099511627776) = A := ⟨_, rfl⟩
  have hAb : 0 ≤ A ∧ A ≤ 4611686018427387904 := by omega
  have hRb : 0 ≤ R ∧ R ≤ 1099511627776 := by omega
  rw [hA] at HN hlast hall ⊢
  rw [hR] at HRr hall
  obtain ⟨a0, a1⟩ := hAb
  obtain ⟨r0, r1⟩ := hRb
  have HH := Lib.hid h
  have HLAST := Lib.hid hlast
  have HALL := Lib.hid hall
  obtain ⟨L, hL⟩ : ∃ L, A - 2 * R = L := ⟨_, rfl⟩
  have HLe := Lib.hid hL
  have HPUT : Hid (∀ W, SetAt l P v W → _) := Lib.hid (fun W hW => rsetPut_end l (by omega) h0 (A, x) hlast P v W hW)
  have HBOX : Hid (BlkIs #[.int .i64 L] 2 w.heap.size (w.alloc (.cells #[.int .i64 L] 2))) := Lib.hid (BlkIs.new _ _ _)
  have HSB : Hid (SetAt l P v (w.alloc (.cells #[.int .i64 L] 2))) := Lib.hid (HH.out.below (bel_alloc _ _))
  have hPlt := h.set.lt
  clear hA hR hlast hall h
  go_enter Tryz.func199, Tryz.ntmps199
  go_upto_region 3 with (first
    | (go_at_call 220; (with_reducible refine (HN.out _).mono ?_); rintro e w1 ⟨rfl, rfl⟩)
    | (go_at_call 220; (with_reducible refine (HRr.out _).mono ?_); rintro e w1 ⟨rfl, rfl⟩))
  obtain ⟨W1, hW1⟩ : ∃ W1, w.alloc (.cells #[.int .i64 L] 2) = W1 := ⟨_, rfl⟩
  rw [hW1] at HBOX HSB ⊢
  have HK1 : Hid (Kept [] w W1) := Lib.hid (by rw [← hW1]; exact Kept.of_below _ (bel_alloc _ _))
  have HSZ : Hid (P < w.heap.size ∧ w.heap.size < W1.heap.size ∧ ∀ g, v.ownBlock = some g → g < w.heap.size) := Lib.hid ⟨hPlt, by rw [← hW1]; simp, fun g hg => (HH.out.row.lt g hg).2⟩
  clear hW1 hPlt hL
  obtain ⟨B, hB⟩ : ∃ B, w.heap.size = B := ⟨_, rfl⟩
  rw [hB] at HBOX HSZ ⊢
  have HBe := Lib.hid hB
  clear hB
  go_upto_region 4 with (go_at_call 221; (with_reducible refine (HPUT.out _ HSB.out).mono ?_); rintro e W2 ⟨rfl, g, c, hs2, hk2, hat2⟩)
  have HB2 : Hid (BlkIs #[.int .i64 L] 2 B W2) := Lib.hid (HBOX.out.kept hk2 (by
    have h1 := HSZ.out
    intro hm
    rcases List.mem_cons.1 hm with h2 | h2
    · omega
    · have h3 : v.ownBlock = some B := by
        unfold own at h2
        cases hv : v.ownBlock with
        | none => rw [hv] at h2; simp at h2
        | some q => rw [hv] at h2; simp at h2; rw [h2]
      have := h1.2.2 B h3
      omega))
  have HS2 := Lib.hid hs2
  have HK2 : Hid (Kept (P :: own v) w W2) := Lib.hid ((HK1.out.more (fun x hx => by cases hx)).trans' hk2)
  have HAT : Hid (v.ownBlock = some g ∨ w.heap.size ≤ g) := Lib.hid (by
    rcases hat2 with h | h
    · exact .inl h
    · exact .inr (Nat.le_trans HK1.out.size h))
  have HDEL := Lib.hid (deleteFunc_none (l ++ [(A, x)]) (by rw [List.length_append]; simp; omega) _ B L W2 hs2.row (BlkIs.cell HB2.out 0) (by rw [List.length_append]; simp) (fun i hi => by
    rcases getD_snoc l (A, x) i hi with ⟨h1, h2⟩ | ⟨h1, h2⟩
    · rw [h2]; have h3 := HALL.out i h1; have h4 := HLe.out; omega
    · rw [h2]; have h4 := HLe.out; simp only; omega))
  have hcap : l.length + 1 ≤ c ∧ c ≤ 9223372036854775807 := by
    obtain ⟨g', c', e1, e2, e3, _⟩ := hs2.row.shape (by rw [List.length_append]; simp)
    injection e1 with _ _ e4
    rw [List.length_append] at e2
    simp at e2
    omega
  have c0 : W2.cell? ⟨P, 0, none⟩ = some (.slice (some ⟨g, 0, none⟩) (l.length + 1) c) := BlkIs.cell hs2.set 0
  obtain ⟨N, hN⟩ : ∃ N, l.length = N := ⟨_, rfl⟩
  have HNl := Lib.hid hN
  rw [hN] at HDEL hcap c0 hl HS2
  obtain ⟨hcap1, hcap2⟩ := hcap
  clear hs2 hk2 hat2 hN HPUT HSB HBOX
  obtain ⟨M1, hM1⟩ : ∃ M, N + 1 = M := ⟨_, rfl⟩
  have HM1e : Hid (l.length + 1 = M1) := Lib.hid (by rw [HNl.out]; exact hM1)
  rw [hM1] at HDEL hcap1 c0 HS2
  have HDL := Lib.hid (fun W => deletePr_none g M1 c hcap1 hcap2 W)
  have hM8 : M1 ≤ 8 := by omega
  clear hM1
  go_upto_region 5 with (go_at_call 222; (with_reducible refine HDEL.out.mono ?_); rintro e W3 ⟨rfl, hb3⟩; have hs3 := HS2.out.below hb3; have f3 := BlkIs.free hs3.set 0; have c3 : W3.cell? ⟨P, 0, none⟩ = some (.slice (some ⟨g, 0, none⟩) M1 c) := BlkIs.cell hs3.set 0)
  obtain ⟨W4, hW4⟩ : ∃ W4, W3.setCell ⟨P, 0, none⟩ (.slice (some ⟨g, 0, none⟩) M1 c) = W4 := ⟨_, rfl⟩
  have hPg : g ≠ P := HS2.out.ne g rfl
  have HS4 : Hid (SetAt (l ++ [(A, x)]) P (.slice (some ⟨g, 0, none⟩) M1 c) W4) := Lib.hid (by
    rw [← hW4]
    exact ⟨BlkIs.set hs3.set 0 _, hs3.row.kept ((Kept.refl [P] W3).setCell (.inl (by simp)) _) (fun q hq => by
      have : g = q := by simpa [Value.ownBlock] using hq
      simp; omega)⟩)
  have HK4 : Hid (Kept (P :: own v) w W4) := Lib.hid (by rw [← hW4]; exact (HK2.out.trans' (Kept.of_below _ hb3)).setCell (.inl (by simp)) _)
  rw [hW4]
  clear hW4 hs3 f3 c3 hb3 c0
  have c4 : W4.cell? ⟨P, 0, none⟩ = some (.slice (some ⟨g, 0, none⟩) M1 c) := BlkIs.cell HS4.out.set 0
  have f4 := BlkIs.free HS4.out.set 0
  have i1 : (if (0 : Int) < (M1 : Int) - 8 then (M1 : Int) - 8 else 0) = 0 := if_neg (by omega)
  have i2 : ¬ ((0 : Int) < (M1 : Int) - 8) := by omega
  have i3 : ¬ ((8 : Int) < (M1 : Int)) := by omega
  have i4 : ¬ (8 < M1) := by omega
  have i5 : decide ((0 : Int) < (M1 : Int) - 8) = false := decide_eq_false i2
  have i6 : IntKind.i64.wrap ((M1 : Int) - 8) = (M1 : Int) - 8 := IntWalk.i64_in _ (by omega)
  have hm2 : (M1 : Int) ≤ 8 := by omega
  go_wp2
  go_region_with (go_at_call 224; (with_reducible refine (HDL.out _).mono ?_); rintro e w1 ⟨rfl, rfl⟩)
  all_goals
    go_wp2
    go_end0
    refine ⟨rfl, g, c, ?_, (HK4.out.setCell (.inl (by simp)) _).drew, HAT.out⟩
    rw [HM1e.out]
    exact ⟨BlkIs.set HS4.out.set 0 _, HS4.out.row.kept (((Kept.refl [P] W4).setCell (.inl (by simp)) _).drew) (fun q hq => by
      have : g = q := by simpa [Value.ownBlock] using hq
      simp; omega)⟩
end Go.Proofs.YtnhlachoimlhhaaGreatDoor
