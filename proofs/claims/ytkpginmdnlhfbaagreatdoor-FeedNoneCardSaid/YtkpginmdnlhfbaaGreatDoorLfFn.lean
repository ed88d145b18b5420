/-
  Rows of unsigned numbers: of the call's own, grown, written.
  What the laid table of the weights says.
  Rows of numbers, and of pairs of numbers, that came in as arguments, opened.
  Package feed: a number that is there; numbers a little out of order.
  The law FeedNone, walked.
-/
import Derived.Test.YtkpginmdnlhfbaaGreatDoorIvalA
import Derived.Laws.AppendOwn
import Derived.Lib.FrozenHead
import Derived.Test.YtkpginmdnlhfbaaGreatDoorRows
import Derived.Lib.LaidU8
import Derived.Lib.LaidTab
import Derived.MakeChecks
import Derived.OpenShut
import Derived.Test.YtkpginmdnlhfbaaGreatDoorIntR
import Derived.Test.YtkpginmdnlhfbaaGreatDoorVecB
import Derived.ChangeSlices
import Derived.ChangeSame
import Derived.Deep.Slices
import Derived.Deep.SlicePairs
import Derived.Test.YtkpginmdnlhfbaaGreatDoorLfFd
import Derived.Test.YtkpginmdnlhfbaaGreatDoorBegun8
import Derived.Deep.Grids
namespace Go.Proofs.YtkpginmdnlhfbaaGreatDoor
open Go.ChangeShapes Go.WideShapes Go.ChangeAt Go.RowKit
set_option linter.unusedVariables false
set_option linter.unusedSimpArgs false

theorem infoU64 : (Tryz.prog.info? 22).map (fun i => (i.zero, i.size, i.bytes)) = some (some (.int .u64 0), 1, 8) := by kernel_rfl
def u64V (n : Nat) : Value := .int .u64 n
/-- A row of numbers that the call owns from block B on; below B nothing has turned since W0. -/
def U64Own (B : Nat) (v : Value) (l : List Nat) (W0 w : World) : Prop := w.ownsRow B 22 1 v l.length (l.map u64V) ∧ Below B W0 w ∧ B ≤ w.heap.size
theorem U64Own.nil (w : World) : U64Own w.heap.size (.slice none 0 0) [] w w := ⟨World.ownsRow_nil _ _ _ _, Below.refl _ _, Nat.le_refl _⟩
theorem U64Own.kept {B : Nat} {v : Value} {l : List Nat} {W0 w w' : World} (h : U64Own B v l W0 w) (hb : Below w.heap.size w w') : U64Own B v l W0 w' := by
  refine ⟨h.1.kept (row := none) ⟨hb.os, hb.tape, hb.output, hb.size, fun k hk _ => hb.block k hk⟩ ?_, h.2.1.trans (hb.mono h.2.2), Nat.le_trans h.2.2 hb.size⟩
  cases v.ownBlock <;> simp
theorem U64Own.at {B : Nat} {v : Value} {l : List Nat} {W0 w : World} (h : U64Own B v l W0 w) (hl : l.length ≤ 1073741824) (hs : ∀ i, l.getD i 0 < 18446744073709551616) : U64At w v l := by
  refine ⟨?_, hl, hs⟩
  rcases h.1.2 with ⟨rfl, h0⟩ | ⟨g, cap, cur, rfl, _, hg, hcap, hcm, _, ht⟩
  · exact ⟨none, 0, by rw [h0], by omega, by decide, fun i hi => by omega⟩
  · have hlt : g < w.heap.size := by
      rcases Nat.lt_or_ge g w.heap.size with hlt | hge
      · exact hlt
      · rw [Array.getElem?_eq_none hge] at hg; cases hg
    refine ⟨some ⟨g, 0, none⟩, cap, rfl, hcap, by unfold maxLen at hcm; omega, fun i hi => ⟨g, 0, rfl, hlt, ?_⟩⟩
    rw [cell_of_row w g (0 + i) cur _ _ hg, Nat.zero_add, ← Array.getElem?_toList]
    have h2 : (l.map u64V)[i]? = some (.int .u64 (l.getD i 0)) := by
      rw [List.getElem?_map, List.getElem?_eq_getElem hi, List.getD_eq_getElem?_getD, List.getElem?_eq_getElem hi]; rfl
    rw [← ht, List.getElem?_take_of_lt (by omega)] at h2
    exact h2
/-- A slice of numbers appended. -/
theorem wp_u64s {ops : Array Oper} {rest : List Oper} {o : Oper} {a : Act} {Q : Exit → Act → World → Prop} (hgd : o.guard = none) (s x : Operand)
    (ho : o.op = .call { callee := .builtin .append, args := #[s, x], argTypes := #[39, 39] })
    (B : Nat) (v : Value) (l m : List Nat) (hs : a.eval s = v) (W0 w : World) (hb : U64Own B v l W0 w) (b : Nat) (q c : Nat)
    (hx : a.eval x = .slice (some ⟨b, q, none⟩) m.length c) (hm : ∀ i, i < m.length → w.cell? ⟨b, q + i, none⟩ = some (.int .u64 (m.getD i 0))) (hlen : l.length ≤ 1073741824) (hlen2 : m.length ≤ 1073741824)
    (h : ∀ v' w', U64Own B v' (l ++ m) W0 w' → wpList Tryz.prog ops Q rest (a.put o.dst v') w') : wpList Tryz.prog ops Q (o :: rest) a w := by
  obtain ⟨i0, hi, hz0, hz1, hz2⟩ := info_parts infoU64
  refine wpList_append_own _ hgd s x 39 ho B 22 i0 (.int .u64 0) 1 8 Tryz.underlying39 hi hz0 hz1 hz2 rfl (by decide) v l.length (l.map u64V) hs hb.1 ⟨b, q, none⟩ m.length c (m.map u64V) hx (by simp) (fun j u hu => ?_) (fun u hu => ?_) (by unfold maxLen; omega) (by omega) hb.2.2 ?_
  · have hj : j < m.length := by
      rcases Nat.lt_or_ge j m.length with h1 | h1
      · exact h1
      · rw [List.getElem?_eq_none (by simpa using h1)] at hu; cases hu
    rw [List.getElem?_map, List.getElem?_eq_getElem hj] at hu
    have hc := hm j hj
    rw [List.getD_eq_getElem?_getD, List.getElem?_eq_getElem hj] at hc
    rw [show (⟨b, q, none⟩ : Addr).add j = ⟨b, q + j, none⟩ from by unfold Addr.add; split <;> simp_all, hc]
    simpa [u64V] using hu
  · obtain ⟨n, _, rfl⟩ := List.mem_map.1 hu; rfl
  · intro v' w' ho' hg _
    refine h v' w' ⟨?_, hb.2.1.grown hg hb.2.2 (fun k hk => (hb.1.lt k hk).1), Nat.le_trans hb.2.2 hg.size⟩
    rw [List.length_append, List.map_append]
    exact ho'
end Go.Proofs.YtkpginmdnlhfbaaGreatDoor

namespace Go.Proofs.YtkpginmdnlhfbaaGreatDoor
open Go.ChangeShapes Go.WideShapes Go.ChangeAt Go.RowKit
set_option linter.unusedVariables false
set_option linter.unusedSimpArgs false

theorem tabW_laid {W : World} {l : List (String × DataW Unit)} (h : laidMet Tryz.prog l W) (hm : ("muleteer/ival.weights", (Rows.laid_muleteer_ival_weights : DataW Unit)) ∈ l) : TabW W := by
  obtain ⟨ps, h, _⟩ := h
  obtain ⟨g, t, cs, fuel, p, hg, ht, hvar, hd⟩ := Lib.LaidVars_reads h _ _ hm
  rw [show (Rows.laid_muleteer_ival_weights : DataW Unit) = Lib.tabData .u64 [5, 5, 5, 5, 4, 3, 2, 1] by kernel_rfl] at hd
  have e : Tryz.prog.globalNamed "muleteer/ival.weights" = some 2 := by kernel_rfl
  obtain rfl := Option.some.inj (e.symm.trans hg)
  obtain rfl : t = 212 := (Option.some.inj ((show (Tryz.prog.globals[2]?).map (·.type) = some 212 by kernel_rfl).symm.trans ht)).symm
  have hc := Lib.cells_of_tab Tryz.underlying212 Tryz.underlying22 (by kernel_rfl) (by kernel_rfl) hd
  obtain ⟨cl⟩ := cs
  simp only at hc
  subst hc
  intro i hi
  have h1 := World.var?_cell e hvar i
  rw [h1]
  obtain rfl | rfl | rfl | rfl | rfl | rfl | rfl | rfl : i = 0 ∨ i = 1 ∨ i = 2 ∨ i = 3 ∨ i = 4 ∨ i = 5 ∨ i = 6 ∨ i = 7 := by omega
  all_goals rfl
end Go.Proofs.YtkpginmdnlhfbaaGreatDoor

namespace Go.Proofs.YtkpginmdnlhfbaaGreatDoor
open Go.ChangeShapes Go.WideShapes Go.Deep Go.RowKit
set_option linter.unusedVariables false

theorem addr_plain {w : World} {a : Addr} {v : Value} (h : w.cell? (a.add 0) = some v) : ∃ b o, a = ⟨b, o, none⟩ ∧ b < w.heap.size := by
  have e : a.add 0 = a := by unfold Addr.add; split <;> simp_all
  rw [e] at h
  have hs : a.spot = none := by
    unfold World.cell? at h
    split at h
    · cases hsp : a.spot with
      | none => rfl
      | some x => rw [hsp] at h; simp at h
    · cases h
  have hb := World.block_lt_of_cell? w a h
  obtain ⟨b, o, sp⟩ := a
  simp only at hs
  subst hs
  exact ⟨b, o, rfl, hb⟩
theorem add_plain (b o k : Nat) : (⟨b, o, none⟩ : Addr).add k = ⟨b, o + k, none⟩ := by unfold Addr.add; split <;> simp_all

theorem open_row {H : Type} {enc : TypeId × Value → H} {W : World} {t e : TypeId} {k : IntKind} {p : Option Addr} {n c : Nat} {d : DataW H} {q : List MemPlace}
    (ht : Tryz.prog.underlying t = some (.slice e)) (he : Tryz.prog.underlying e = some (.int k)) (hc : Tryz.prog.cellsOf e = 1)
    (h : DataW.Trod enc Tryz.prog W 0 (fun _ => true) true t (.slice p n c) d q) :
    n ≤ c ∧ c ≤ 9223372036854775807 ∧ ∃ zs : List Int, n ≤ zs.length ∧ (∀ z ∈ zs, (Lit.int k z).wf = true) ∧ ∀ i, i < n → ∃ b o, p = some ⟨b, o, none⟩ ∧ b < W.heap.size ∧ W.cell? ⟨b, o + i, none⟩ = some (.int k (zs.getD i 0)) := by
  obtain ⟨fuel, hf⟩ := h
  rcases open_ints ht he hc hf with ⟨hcs, hx⟩ | ⟨a, len', cap', zs, hcs, _, hl, hm, hz, hx, hcell, hwz⟩
  · simp [Value.cells] at hcs
    obtain ⟨rfl, rfl, rfl⟩ := hcs
    exact ⟨by omega, by omega, [], by simp, by simp, fun i hi => absurd hi (Nat.not_lt_zero i)⟩
  · simp [Value.cells] at hcs
    obtain ⟨rfl, rfl, rfl⟩ := hcs
    simp only [if_true] at hz
    have hm' : c ≤ 9223372036854775807 := hm
    refine ⟨hl, hm', zs, by omega, hwz, fun i hi => ?_⟩
    obtain ⟨b, o, rfl, hb⟩ := addr_plain (hcell 0 (by omega))
    have h1 := hcell i (by omega)
    rw [add_plain] at h1
    exact ⟨b, o, rfl, hb, h1⟩

theorem getD_take_lt {α : Type} (l : List α) (d : α) (m i : Nat) (h : i < m) : (l.take m).getD i d = l.getD i d := by
  rw [List.getD_eq_getElem?_getD, List.getD_eq_getElem?_getD, List.getElem?_take, if_pos h]
theorem getD_prop {α : Type} {P : α → Prop} {l : List α} {d : α} (h : ∀ z ∈ l, P z) (hd : P d) (i : Nat) : P (l.getD i d) := by
  rw [List.getD_eq_getElem?_getD]
  by_cases hi : i < l.length
  · rw [List.getElem?_eq_getElem hi]; exact h _ (List.getElem_mem _)
  · rw [List.getElem?_eq_none (by omega)]; exact hd

/-- Its first m numbers, signed. -/
theorem open_i64s {H : Type} {enc : TypeId × Value → H} {W : World} {t e : TypeId} {p : Option Addr} {n c : Nat} {d : DataW H} {q : List MemPlace} (m : Nat) (hm : m ≤ 1073741824)
    (ht : Tryz.prog.underlying t = some (.slice e)) (he : Tryz.prog.underlying e = some (.int .i64)) (hc : Tryz.prog.cellsOf e = 1)
    (h : DataW.Trod enc Tryz.prog W 0 (fun _ => true) true t (.slice p n c) d q) :
    n ≤ c ∧ c ≤ 9223372036854775807 ∧ ∃ l : List Int, l.length = min n m ∧ I64At W (.slice p l.length c) l := by
  obtain ⟨h1, h2, zs, h3, h4, h5⟩ := open_row ht he hc h
  have hl : (zs.take (min n m)).length = min n m := by rw [List.length_take]; omega
  refine ⟨h1, h2, zs.take (min n m), hl, ⟨p, c, rfl, by omega, h2, fun i hi => ?_⟩, by omega, fun i => ?_⟩
  · rw [getD_take_lt _ _ _ _ (by omega)]
    exact h5 i (by omega)
  · exact getD_prop (P := fun z => -9223372036854775808 ≤ z ∧ z ≤ 9223372036854775807) (fun z hz => bounds_i64 (h4 z (List.mem_of_mem_take hz))) (by decide) i
/-- All its numbers, signed. -/
theorem open_i64w {H : Type} {enc : TypeId × Value → H} {W : World} {t e : TypeId} {p : Option Addr} {n c : Nat} {d : DataW H} {q : List MemPlace}
    (ht : Tryz.prog.underlying t = some (.slice e)) (he : Tryz.prog.underlying e = some (.int .i64)) (hc : Tryz.prog.cellsOf e = 1)
    (h : DataW.Trod enc Tryz.prog W 0 (fun _ => true) true t (.slice p n c) d q) :
    n ≤ c ∧ c ≤ 9223372036854775807 ∧ ∃ l : List Int, l.length = n ∧ ∀ i, i < l.length → ∃ b o, p = some ⟨b, o, none⟩ ∧ b < W.heap.size ∧ W.cell? ⟨b, o + i, none⟩ = some (.int .i64 (l.getD i 0)) := by
  obtain ⟨h1, h2, zs, h3, h4, h5⟩ := open_row ht he hc h
  have hl : (zs.take n).length = n := by rw [List.length_take]; omega
  refine ⟨h1, h2, zs.take n, hl, fun i hi => ?_⟩
  rw [getD_take_lt _ _ _ _ (by omega)]
  exact h5 i (by omega)
/-- Its first m numbers, without a sign. -/
theorem open_u64s {H : Type} {enc : TypeId × Value → H} {W : World} {t e : TypeId} {p : Option Addr} {n c : Nat} {d : DataW H} {q : List MemPlace} (m : Nat) (hm : m ≤ 1073741824)
    (ht : Tryz.prog.underlying t = some (.slice e)) (he : Tryz.prog.underlying e = some (.int .u64)) (hc : Tryz.prog.cellsOf e = 1)
    (h : DataW.Trod enc Tryz.prog W 0 (fun _ => true) true t (.slice p n c) d q) :
    n ≤ c ∧ c ≤ 9223372036854775807 ∧ ∃ l : List Nat, l.length = min n m ∧ U64At W (.slice p l.length c) l := by
  obtain ⟨h1, h2, zs, h3, h4, h5⟩ := open_row ht he hc h
  have hb : ∀ i, 0 ≤ zs.getD i 0 ∧ zs.getD i 0 ≤ 18446744073709551615 := fun i => getD_prop (P := fun z => 0 ≤ z ∧ z ≤ 18446744073709551615) (fun z hz => bounds_u64 (h4 z hz)) (by decide) i
  have hl : ((zs.take (min n m)).map Int.toNat).length = min n m := by rw [List.length_map, List.length_take]; omega
  have hg : ∀ i, i < min n m → ((((zs.take (min n m)).map Int.toNat).getD i 0 : Nat) : Int) = zs.getD i 0 := fun i hi => by
    have h6 := hb i
    rw [List.getD_eq_getElem?_getD] at h6
    rw [List.getD_eq_getElem?_getD, List.getD_eq_getElem?_getD, List.getElem?_map, List.getElem?_take, if_pos hi]
    have hz : i < zs.length := by omega
    rw [List.getElem?_eq_getElem hz] at h6 ⊢
    simp only [Option.getD_some, Option.map_some] at h6 ⊢
    omega
  refine ⟨h1, h2, (zs.take (min n m)).map Int.toNat, hl, ⟨p, c, rfl, by omega, h2, fun i hi => ?_⟩, by omega, fun i => ?_⟩
  · rw [hg i (by omega)]
    exact h5 i (by omega)
  · by_cases hi : i < min n m
    · have h6 := hb i
      have h7 := hg i hi
      omega
    · rw [List.getD_eq_getElem?_getD, List.getElem?_eq_none (by omega)]
      decide

/-- A row of pairs of numbers, whole. -/
theorem open_pairs {H : Type} {enc : TypeId × Value → H} {W : World} {t e : TypeId} {f0 f1 : Field} {p : Option Addr} {n c : Nat} {d : DataW H} {q : List MemPlace}
    (ht : Tryz.prog.underlying t = some (.slice e)) (he : Tryz.prog.underlying e = some (.struct #[f0, f1])) (ce : Tryz.prog.cellsOf e = 2) (o0 : f0.offset = 0) (o1 : f1.offset = 1) (c0 : Tryz.prog.cellsOf f0.type = 1) (c1 : Tryz.prog.cellsOf f1.type = 1)
    (u0 : Tryz.prog.underlying f0.type = some (.int .i64)) (u1 : Tryz.prog.underlying f1.type = some (.int .i64))
    (h : DataW.Trod enc Tryz.prog W 0 (fun _ => true) true t (.slice p n c) d q) :
    n ≤ c ∧ c ≤ 9223372036854775807 ∧ ∃ l : List Cel, l.length = n ∧ (∀ x ∈ l, -9223372036854775808 ≤ x.2 ∧ x.2 ≤ 9223372036854775807) ∧
      ∀ i, i < l.length → ∃ b o, p = some ⟨b, o, none⟩ ∧ b < W.heap.size ∧ W.cell? ⟨b, o + i * 2, none⟩ = some (.int .i64 (l.getD i (0, 0)).1) ∧ W.cell? ⟨b, o + i * 2 + 1, none⟩ = some (.int .i64 (l.getD i (0, 0)).2) := by
  obtain ⟨fuel, hf⟩ := h
  rcases open_slice_pairs ht he ce o0 o1 c0 c1 hf with ⟨hcs, hx⟩ | ⟨a, len, cap, m, n', V0, V1, D0, D1, P0, P1, hcs, _, hl, hm, hmm, hx, hi⟩
  · simp [Value.cells] at hcs
    obtain ⟨rfl, rfl, rfl⟩ := hcs
    exact ⟨by omega, by omega, [], rfl, by simp, fun i hi => absurd hi (Nat.not_lt_zero i)⟩
  · simp [Value.cells] at hcs
    obtain ⟨rfl, rfl, rfl⟩ := hcs
    have hm' : c ≤ 9223372036854775807 := hm
    simp only [if_true] at hmm
    have key : ∀ i, i < n → ∃ x : Cel, V0 i = .int .i64 x.1 ∧ V1 i = .int .i64 x.2 ∧ (-9223372036854775808 ≤ x.2 ∧ x.2 ≤ 9223372036854775807) := by
      intro i hin
      obtain ⟨_, _, k0, k1⟩ := hi i (by omega)
      obtain ⟨z0, hz0, _, _⟩ := DataW.trod_int u0 k0
      obtain ⟨z1, hz1, _, hw1⟩ := DataW.trod_int u1 k1
      simp at hz0 hz1
      exact ⟨(z0, z1), hz0, hz1, bounds_i64 hw1⟩
    have hlist : ∀ m', m' ≤ n → ∃ l : List Cel, l.length = m' ∧ (∀ x ∈ l, -9223372036854775808 ≤ x.2 ∧ x.2 ≤ 9223372036854775807) ∧ ∀ i, i < m' → V0 i = .int .i64 (l.getD i (0, 0)).1 ∧ V1 i = .int .i64 (l.getD i (0, 0)).2 := by
      intro m'
      induction m' with
      | zero => exact fun _ => ⟨[], rfl, by simp, fun i hi => absurd hi (Nat.not_lt_zero i)⟩
      | succ m' ih =>
        intro hmn
        obtain ⟨l, hl1, hl2, hl3⟩ := ih (by omega)
        obtain ⟨x, hx0, hx1, hx2⟩ := key m' (by omega)
        refine ⟨l ++ [x], by simp [hl1], fun y hy => ?_, fun i hi' => ?_⟩
        · rcases List.mem_append.1 hy with h8 | h8
          · exact hl2 y h8
          · rw [List.mem_singleton.1 h8]; exact hx2
        · by_cases e' : i < m'
          · have h9 := hl3 i e'
            rw [List.getD_eq_getElem?_getD] at h9 ⊢
            rwa [List.getElem?_append_left (by omega)]
          · obtain rfl : i = m' := by omega
            rw [List.getD_eq_getElem?_getD, List.getElem?_append_right (by omega), hl1]
            simpa using ⟨hx0, hx1⟩
    obtain ⟨l, hl1, hl2, hl3⟩ := hlist n (Nat.le_refl _)
    refine ⟨hl, hm', l, hl1, hl2, fun i hi' => ?_⟩
    have h0 := (hi 0 (by omega)).1
    rw [Nat.zero_mul] at h0
    obtain ⟨b, o, rfl, hb⟩ := addr_plain h0
    obtain ⟨h6, h7, _, _⟩ := hi i (by omega)
    obtain ⟨h8, h9⟩ := hl3 i (by omega)
    rw [add_plain] at h6 h7
    rw [h8] at h6
    rw [h9] at h7
    exact ⟨b, o, rfl, hb, h6, h7⟩
end Go.Proofs.YtkpginmdnlhfbaaGreatDoor

namespace Go.Proofs.YtkpginmdnlhfbaaGreatDoor
open Go.ChangeShapes Go.WideShapes Go.ChangeAt Go.RowKit
set_option linter.unusedVariables false
set_option linter.unusedSimpArgs false

set_option maxHeartbeats 4000000 in
theorem feedPut_no (s : FdS) (N : Int) (cl : Value) (now : Int) (hN : max s.now (min now 4611686018427387904) = N) (n a sp : Nat) (ha : a < 250) (hsp : s.span = (sp : Int)) (hsp1 : 1 ≤ sp)
    (hd : ∀ W, Calls Tryz.prog 72 #[.int .u64 s.newest, .int .u64 n] W fun e w' => e = .returned (.int .i64 (a : Int)) ∧ W = w')
    (hm : (s.nums.getD a (0, 0)).1 = 1) (sz : Int) (C : Nat) (w : World) (h : FdAt s cl C w) :
    Calls Tryz.prog 25 #[.pointer (some ⟨C, 0, none⟩), .int .i64 now, .int .u64 n, .int .i64 sz] w fun e w' => e = .returned (.bool false) ∧ FdAt { s with now := N } cl C w' ∧ Kept [C] w w' := by
  have HP := Lib.hid (feedPass_any s cl now C w h)
  rw [hN] at HP
  have HD := Lib.hid hd
  have HM := Lib.hid hm
  have hs0 : ¬ s.span = 0 := by omega
  have hsb : (s.span == 0) = false := by rw [beq_eq_false_iff_ne]; exact hs0
  clear h hd hN hm
  go_enter Tryz.func25, Tryz.ntmps25
  go_upto_region 4 with (go_at_call 71; (with_reducible refine HP.out.mono ?_); rintro e W1 ⟨rfl, h1, hk1⟩)
  have a5 := h1.tail.1
  have a3 := h1.head.2.2.2
  simp only at a5 a3
  have b4 := (h1.num a ha).1
  simp only at b4
  rw [HM.out] at b4
  have H1 := Lib.hid h1
  have HK1 := Lib.hid hk1
  clear h1 hk1
  have i0 : decide ((a : Int) < 0) = false := decide_eq_false (by omega)
  have i1 : ¬ (a : Int) < 0 := by omega
  have i3 : decide ((250 : Int) ≤ (a : Int)) = false := decide_eq_false (by omega)
  have i4 : ¬ 250 ≤ a := by omega
  go_wp2_with (go_at_call 72; (with_reducible refine (HD.out _).mono ?_); rintro e w1 ⟨rfl, rfl⟩)
  go_ret
  exact ⟨rfl, H1.out, HK1.out⟩
set_option maxRecDepth 100000 in
set_option maxHeartbeats 4000000 in
theorem feedIntervals_none (s : FdS) (C : Nat) (w : World) (h : FdAt s (.slice none 0 0) C w) :
    Calls Tryz.prog 26 #[.pointer (some ⟨C, 0, none⟩)] w fun e w' => e = .returned (.tuple #[.int .u64 0, .slice none 0 0]) ∧ ∃ n, w' = w.drewN n := by
  have a8 := h.tail.2.2.2.2.1
  have HO := Lib.hid (fun n => feedOpen_none s none 0 C (w.drewN n) (h.below (bel_drewN w n)))
  have HC : Hid (∀ W, Calls Tryz.prog 76 #[.slice none 0 0] W fun e w' => e = .returned (.slice none 0 0) ∧ w' = W) := Lib.hid (fun W => by
    have hE : ∀ w : World, (binOp .eql 39 (.slice none 0 0) (.slice none 0 0)).run Tryz.prog w = .ok (.bool true) w := fun w => Lib.run_eql_slice_nil w 39 22 none 0 0 0 0 (by rfl)
    go_enter Tryz.func76, Tryz.ntmps76
    go_wp2
    go_ret
    exact ⟨rfl, rfl⟩)
  clear h
  go_enter Tryz.func26, Tryz.ntmps26
  go_wp2
  go_quiet ((first
    | (go_at_call 75; exact Calls.quiet_of_same (HO.out _))
    | (go_at_call 76; exact Calls.quiet_of_same (HC.out _))))
  go_wp2
  go_ret2
  exact ⟨rfl, _, rfl⟩
/-- The number i steps on. -/
def nF (first i : Nat) : Nat := (first + i) % 281474976710656
theorem nF_step (first i : Nat) : stepI first (i : Int) = (nF first i : Int) := by unfold stepI nF; omega
theorem nF_lt (first i : Nat) : nF first i < 281474976710656 := Nat.mod_lt _ (by decide)
theorem nF_diff (first i j : Nat) (hi : i ≤ 1000) (hj : j ≤ 1000) : diffI (nF first i) (nF first j) = (i : Int) - (j : Int) := by unfold diffI nF; omega
/-- m numbers up to the newest; with a hole the one behind the newest is not there. -/
structure FnG (first m : Nat) (hole : Bool) (T : Int) (By : Nat) (s : FdS) : Prop where
  span : s.span = (m : Int)
  new : s.newest = nF first (m - 1)
  now : s.now ≤ T
  since : s.since = 0
  bytes : s.bytes = By
  nums : ∀ k, k < m → (s.nums.getD k (0, 0)).1 = if hole = true ∧ k = 1 then 0 else 1
  lost : s.lost = 0
theorem diffF (first i j : Nat) (d : Int) (hi : i ≤ 1000) (hj : j ≤ 1000) (hd : (i : Int) - (j : Int) = d) (W : World) : Calls Tryz.prog 72 #[.int .u64 (nF first i), .int .u64 (nF first j)] W fun e w' => e = .returned (.int .i64 d) ∧ W = w' := by
  have h := seqDiff_any (nF first i) (nF first j) (by have := nF_lt first i; omega) (by have := nF_lt first j; omega) W
  rw [nF_diff first i j hi hj, hd] at h
  exact h
theorem fnFirst (first sz : Nat) (hsz : sz ≤ 65535) (C : Nat) (w : World) (h : FdAt (FdS.fresh 1000) (.slice none 0 0) C w) :
    Calls Tryz.prog 25 #[.pointer (some ⟨C, 0, none⟩), .int .i64 0, .int .u64 (nF first 0), .int .i64 sz] w fun e w' => e = .returned (.bool true) ∧ ∃ s', FnG first 1 false 0 sz s' ∧ FdAt s' (.slice none 0 0) C w' ∧ Kept [C] w w' := by
  refine (feedPut_first (FdS.fresh 1000) rfl (List.replicate 249 (0, 0)) rfl 0 0 (by decide) (nF first 0) (fun W => diffF first 0 0 0 (by decide) (by decide) rfl W) sz hsz (by decide) _ C w h).mono ?_
  rintro e w' ⟨rfl, h3, h4⟩
  refine ⟨rfl, _, ⟨rfl, rfl, Int.le_refl _, rfl, by show 0 + sz = sz; omega, fun k hk => ?_, rfl⟩, h3, h4⟩
  obtain rfl : k = 0 := by omega
  rfl
theorem fnLead {first m : Nat} {T : Int} {By : Nat} {s : FdS} (h : FnG first m false T By s) (step : Nat) (hst : step = 1 ∨ step = 2) (hm : 1 ≤ m) (hm2 : m ≤ 100) (hBy : By ≤ 1000000) (T2 : Int) (hT : T ≤ T2) (h0 : 0 ≤ T2) (h2 : T2 ≤ 1000000) (sz : Nat) (hsz : sz ≤ 65535) (C : Nat) (w : World) (hf : FdAt s (.slice none 0 0) C w) :
    Calls Tryz.prog 25 #[.pointer (some ⟨C, 0, none⟩), .int .i64 T2, .int .u64 (nF first (m - 1 + step)), .int .i64 sz] w fun e w' => e = .returned (.bool true) ∧ ∃ s', FnG first (m + step) (decide (step = 2)) T2 (By + sz) s' ∧ FdAt s' (.slice none 0 0) C w' ∧ Kept [C] w w' := by
  have hnow := h.now
  obtain ⟨s1, hs1⟩ : ∃ s1, FdS.leadN { s with now := T2 } (nF first (m - 1 + step)) step ((m + step : Nat) : Int) = s1 := ⟨_, rfl⟩
  have hn1 : s1.nums = List.replicate step (0, 0) ++ s.nums.take (250 - step) := by rw [← hs1]; rfl
  have hlen := hf.len
  have hget : ∀ j, j < m + step → ((s1.nums.set 0 (1, T2)).getD j (0, 0)).1 = if decide (step = 2) = true ∧ j = 1 then 0 else 1 := fun j hj => by
    rw [hn1, List.getD_eq_getElem?_getD, List.getElem?_set]
    by_cases hj0 : 0 = j
    · subst hj0
      rw [if_pos rfl, if_pos (by simp; omega), if_neg (by omega)]
      rfl
    · rw [if_neg hj0]
      by_cases hjs : j < step
      · rw [List.getElem?_append_left (by simpa using hjs), List.getElem?_replicate, if_pos hjs, if_pos ⟨by simp; omega, by omega⟩]
        rfl
      · rw [List.getElem?_append_right (by simpa using hjs), List.length_replicate, List.getElem?_take, if_pos (by omega), ← List.getD_eq_getElem?_getD, h.nums (j - step) (by omega), if_neg (by simp), if_neg (by simp; omega)]
  have hyb := nF_lt first (m - 1 + step)
  refine (feedPut_lead s T2 _ T2 (by omega) (nF first (m - 1 + step)) (y := nF first (m - 1 + step)) step step m (m + step) (by omega) (by omega) (by omega) h.span hm (by omega) (by omega) (fun W => ?_) (fun W => ?_) s1 hs1 (fun k hk hz => ?_) sz hsz (by rw [h.bytes]; omega) C w hf).mono ?_
  · have h9 := seqAdd_any s.newest step (by rw [h.new]; have := nF_lt first (m - 1); omega) (by omega) (by omega) W
    rw [h.new] at h9 ⊢
    rw [show stepI (nF first (m - 1) : Int) (step : Int) = (nF first (m - 1 + step) : Int) by unfold stepI nF; omega] at h9
    exact h9
  · rw [h.new]
    exact diffF first (m - 1) (m - 1 + step) _ (by omega) (by omega) (by omega) W
  · rw [hget k hk] at hz
    have hk1 : k = 1 := by
      by_cases h9 : decide (step = 2) = true ∧ k = 1
      · exact h9.2
      · rw [if_neg h9] at hz; cases hz
    have := gotN_le (s1.nums.set 0 (1, T2)) k
    omega
  · rintro e w' ⟨rfl, h3, h4⟩
    refine ⟨rfl, _, ⟨?_, ?_, Int.le_refl _, ?_, ?_, hget, ?_⟩, h3, h4⟩
    · show s1.span = _; rw [← hs1]; rfl
    · show s1.newest = _; rw [← hs1]; show nF first (m - 1 + step) = nF first (m + step - 1); rw [show m - 1 + step = m + step - 1 by omega]
    · show s1.since = 0; rw [← hs1]; exact h.since
    · show s1.bytes + sz = _; rw [← hs1]; show s.bytes + sz = _; rw [h.bytes]
    · show s1.lost = 0; rw [← hs1]; exact h.lost
theorem fnFill {first m : Nat} {T : Int} {By : Nat} {s : FdS} (h : FnG first m true T By s) (hm : 2 ≤ m) (hm2 : m ≤ 100) (hBy : By ≤ 1000000) (T2 : Int) (hT : T ≤ T2) (h0 : 0 ≤ T2) (h2 : T2 ≤ 1000000) (sz : Nat) (hsz : sz ≤ 65535) (C : Nat) (w : World) (hf : FdAt s (.slice none 0 0) C w) :
    Calls Tryz.prog 25 #[.pointer (some ⟨C, 0, none⟩), .int .i64 T2, .int .u64 (nF first (m - 2)), .int .i64 sz] w fun e w' => e = .returned (.bool true) ∧ ∃ s', FnG first m false T2 (By + sz) s' ∧ FdAt s' (.slice none 0 0) C w' ∧ Kept [C] w w' := by
  have hnow := h.now
  have hlen := hf.len
  obtain ⟨s1, hs1⟩ : ∃ s1, ({ s with now := T2 } : FdS) = s1 := ⟨_, rfl⟩
  have hn1 : s1.nums = s.nums := by rw [← hs1]
  have hget : ∀ j, j < m → ((s1.nums.set 1 (1, T2)).getD j (0, 0)).1 = 1 := fun j hj => by
    rw [hn1, List.getD_eq_getElem?_getD, List.getElem?_set]
    by_cases hj0 : 1 = j
    · subst hj0
      rw [if_pos rfl, if_pos (by omega)]
      rfl
    · rw [if_neg hj0, ← List.getD_eq_getElem?_getD, h.nums j hj, if_neg (by omega)]
  refine (feedPut_fill s T2 _ T2 (by omega) (nF first (m - 2)) m 1 (by decide) h.span (by omega) (by omega) (fun W => ?_) s1 hs1 (by rw [hn1, h.nums 1 (by omega), if_pos ⟨rfl, rfl⟩]) (fun k hk hz => by rw [hget k hk] at hz; cases hz) sz hsz (by rw [h.bytes]; omega) C w hf).mono ?_
  · rw [h.new]
    exact diffF first (m - 1) (m - 2) _ (by omega) (by omega) (by omega) W
  · rintro e w' ⟨rfl, h3, h4⟩
    refine ⟨rfl, _, ⟨?_, ?_, Int.le_refl _, ?_, ?_, fun j hj => ?_, ?_⟩, h3, h4⟩
    · show s1.span = _; rw [← hs1]; exact h.span
    · show s1.newest = _; rw [← hs1]; exact h.new
    · show s1.since = 0; rw [← hs1]; exact h.since
    · show s1.bytes + sz = _; rw [← hs1]; show s.bytes + sz = _; rw [h.bytes]
    · rw [if_neg (by simp)]; exact hget j hj
    · show s1.lost = 0; rw [← hs1]; exact h.lost
theorem fnNo {first m : Nat} {hole : Bool} {T : Int} {By : Nat} {s : FdS} (h : FnG first m hole T By s) (a : Nat) (ha : a < m) (hh : ¬ (hole = true ∧ a = 1)) (hm2 : m ≤ 100) (T2 : Int) (hT : T ≤ T2) (h2 : T2 ≤ 1000000) (sz : Int) (C : Nat) (w : World) (hf : FdAt s (.slice none 0 0) C w) :
    Calls Tryz.prog 25 #[.pointer (some ⟨C, 0, none⟩), .int .i64 T2, .int .u64 (nF first (m - 1 - a)), .int .i64 sz] w fun e w' => e = .returned (.bool false) ∧ ∃ s', FnG first m hole T2 By s' ∧ FdAt s' (.slice none 0 0) C w' ∧ Kept [C] w w' := by
  have hnow := h.now
  refine (feedPut_no s T2 _ T2 (by omega) (nF first (m - 1 - a)) a m (by omega) h.span (by omega) (fun W => by
    rw [h.new]
    exact diffF first (m - 1) (m - 1 - a) _ (by omega) (by omega) (by omega) W) (by rw [h.nums a ha, if_neg hh]) sz C w hf).mono ?_
  rintro e w' ⟨rfl, h3, h4⟩
  exact ⟨rfl, { s with now := T2 }, ⟨h.span, h.new, Int.le_refl _, h.since, h.bytes, h.nums, h.lost⟩, h3, h4⟩
/-- The place of number j in its turn: some neighbours have changed places. -/
def pS (sw : Nat → Bool) (j : Nat) : Nat := if j % 2 = 1 then (if sw j = true then j + 1 else j) else if 1 ≤ j ∧ sw (j - 1) = true then j - 1 else j
/-- Behind j numbers. -/
def FnSt (first : Nat) (sw : Nat → Bool) (j : Nat) (T : Int) (s : FdS) : Prop :=
  (j = 0 ∧ T = 0 ∧ s = FdS.fresh 1000) ∨ (1 ≤ j ∧ ¬ (j % 2 = 0 ∧ sw (j - 1) = true) ∧ FnG first j false T (100 * j) s) ∨ (2 ≤ j ∧ j % 2 = 0 ∧ sw (j - 1) = true ∧ FnG first (j + 1) true T (100 * j) s)
theorem fnStep1 {first j : Nat} {sw : Nat → Bool} {T : Int} {s : FdS} (h : FnSt first sw j T s) (hj : j ≤ 90) (T2 : Int) (hT : T ≤ T2) (hz : j = 0 → T2 = 0) (h0 : 0 ≤ T2) (h2 : T2 ≤ 1000000) (C : Nat) (w : World) (hf : FdAt s (.slice none 0 0) C w) :
    Calls Tryz.prog 25 #[.pointer (some ⟨C, 0, none⟩), .int .i64 T2, .int .u64 (nF first (pS sw j)), .int .i64 100] w fun e w' => e = .returned (.bool true) ∧ ∃ s', FnSt first sw (j + 1) T2 s' ∧ FdAt s' (.slice none 0 0) C w' ∧ Kept [C] w w' := by
  rcases h with ⟨rfl, _, rfl⟩ | ⟨h1, h3, h4⟩ | ⟨h1, h3, h5, h4⟩
  · rw [hz rfl, show pS sw 0 = 0 by unfold pS; simp]
    refine (fnFirst first 100 (by decide) C w hf).mono ?_
    rintro e w' ⟨rfl, s', g1, g2, g3⟩
    exact ⟨rfl, s', .inr (.inl ⟨Nat.le_refl _, by omega, g1⟩), g2, g3⟩
  · by_cases hs : j % 2 = 1 ∧ sw j = true
    · rw [show pS sw j = j - 1 + 2 by unfold pS; rw [if_pos hs.1, if_pos hs.2]; omega]
      refine (fnLead h4 2 (.inr rfl) h1 (by omega) (by omega) T2 hT h0 h2 100 (by decide) C w hf).mono ?_
      rintro e w' ⟨rfl, s', g1, g2, g3⟩
      exact ⟨rfl, s', .inr (.inr ⟨by omega, by omega, hs.2, by rw [show 100 * (j + 1) = 100 * j + 100 by omega]; exact g1⟩), g2, g3⟩
    · have hp : pS sw j = j - 1 + 1 := by
        unfold pS
        by_cases ho : j % 2 = 1
        · rw [if_pos ho, if_neg (fun e => hs ⟨ho, e⟩)]; omega
        · rw [if_neg ho, if_neg (fun e => h3 ⟨by omega, e.2⟩)]; omega
      rw [hp]
      refine (fnLead h4 1 (.inl rfl) h1 (by omega) (by omega) T2 hT h0 h2 100 (by decide) C w hf).mono ?_
      rintro e w' ⟨rfl, s', g1, g2, g3⟩
      exact ⟨rfl, s', .inr (.inl ⟨by omega, fun e => hs ⟨by omega, e.2⟩, by rw [show 100 * (j + 1) = 100 * j + 100 by omega]; exact g1⟩), g2, g3⟩
  · rw [show pS sw j = j + 1 - 2 by unfold pS; rw [if_neg (by omega), if_pos ⟨by omega, h5⟩]; omega]
    refine (fnFill h4 (by omega) (by omega) (by omega) T2 hT h0 h2 100 (by decide) C w hf).mono ?_
    rintro e w' ⟨rfl, s', g1, g2, g3⟩
    exact ⟨rfl, s', .inr (.inl ⟨by omega, by omega, by rw [show 100 * (j + 1) = 100 * j + 100 by omega]; exact g1⟩), g2, g3⟩
theorem fnStep2 {first j : Nat} {sw : Nat → Bool} {T : Int} {s : FdS} (h : FnSt first sw (j + 1) T s) (hj : j ≤ 90) (T2 : Int) (hT : T ≤ T2) (h2 : T2 ≤ 1000000) (C : Nat) (w : World) (hf : FdAt s (.slice none 0 0) C w) :
    Calls Tryz.prog 25 #[.pointer (some ⟨C, 0, none⟩), .int .i64 T2, .int .u64 (nF first (pS sw j)), .int .i64 100] w fun e w' => e = .returned (.bool false) ∧ ∃ s', FnSt first sw (j + 1) T2 s' ∧ FdAt s' (.slice none 0 0) C w' ∧ Kept [C] w w' := by
  rcases h with ⟨h1, _⟩ | ⟨h1, h3, h4⟩ | ⟨h1, h3, h5, h4⟩
  · omega
  · by_cases hs : j % 2 = 0 ∧ 1 ≤ j ∧ sw (j - 1) = true
    · rw [show pS sw j = j + 1 - 1 - 1 by unfold pS; rw [if_neg (by omega), if_pos ⟨hs.2.1, hs.2.2⟩]; omega]
      refine (fnNo h4 1 (by omega) (by simp) (by omega) T2 hT h2 100 C w hf).mono ?_
      rintro e w' ⟨rfl, s', g1, g2, g3⟩
      exact ⟨rfl, s', .inr (.inl ⟨h1, h3, g1⟩), g2, g3⟩
    · have hp : pS sw j = j + 1 - 1 - 0 := by
        unfold pS
        by_cases ho : j % 2 = 1
        · rw [if_pos ho, if_neg (fun e => h3 ⟨by omega, by simpa using e⟩)]; omega
        · rw [if_neg ho, if_neg (fun e => hs ⟨by omega, e.1, e.2⟩)]; omega
      rw [hp]
      refine (fnNo h4 0 (by omega) (by simp) (by omega) T2 hT h2 100 C w hf).mono ?_
      rintro e w' ⟨rfl, s', g1, g2, g3⟩
      exact ⟨rfl, s', .inr (.inl ⟨h1, h3, g1⟩), g2, g3⟩
  · have hp : pS sw j = j + 1 + 1 - 1 - 0 := by
      unfold pS
      rw [if_pos (by omega), if_pos (by simpa using h5)]
      omega
    rw [hp]
    refine (fnNo h4 0 (by omega) (by simp) (by omega) T2 hT h2 100 C w hf).mono ?_
    rintro e w' ⟨rfl, s', g1, g2, g3⟩
    exact ⟨rfl, s', .inr (.inr ⟨h1, h3, h5, g1⟩), g2, g3⟩
end Go.Proofs.YtkpginmdnlhfbaaGreatDoor

namespace Go.Proofs.YtkpginmdnlhfbaaGreatDoor
open Go.ChangeShapes Go.WideShapes Go.ChangeAt Go.RowKit
set_option linter.unusedVariables false
set_option linter.unusedSimpArgs false

theorem feedLostN (s : FdS) (cl : Value) (C : Nat) (w : World) (h : FdAt s cl C w) :
    Calls Tryz.prog 28 #[.pointer (some ⟨C, 0, none⟩)] w fun e w' => e = .returned (.int .i64 s.lost) ∧ w = w' := by
  have a5 := h.tail.2.1
  clear h
  go_enter Tryz.func28, Tryz.ntmps28
  go_wp2
  go_ret
  exact ⟨rfl, rfl⟩
/-- A row of the call's own that is not empty, cell by cell. -/
theorem fnShape {B : Nat} {v : Value} {l : List Nat} {W0 w : World} (h : U64Own B v l W0 w) (hne : 0 < l.length) : ∃ g c, v = .slice (some ⟨g, 0, none⟩) l.length c ∧ l.length ≤ c ∧ c ≤ 9223372036854775807 ∧ B ≤ g ∧ g < w.heap.size ∧
    (∀ i, i < l.length → w.cell? ⟨g, i, none⟩ = some (.int .u64 (l.getD i 0))) ∧ ∀ i, w.frozen? ⟨g, i, none⟩ = false := by
  rcases h.1.2 with ⟨rfl, h0⟩ | ⟨g, cap, cur, rfl, hB, hg, hcap, hcm, _, ht⟩
  · omega
  · have hlt : g < w.heap.size := by
      rcases Nat.lt_or_ge g w.heap.size with hlt | hge
      · exact hlt
      · rw [Array.getElem?_eq_none hge] at hg; cases hg
    refine ⟨g, cap, rfl, hcap, by unfold maxLen at hcm; omega, hB, hlt, fun i hi => ?_, fun i => frozen_of_row w g i _ _ hg⟩
    rw [cell_of_row w g i cur _ _ hg, ← Array.getElem?_toList]
    have h2 : (l.map u64V)[i]? = some (.int .u64 (l.getD i 0)) := by
      rw [List.getElem?_map, List.getElem?_eq_getElem hi, List.getD_eq_getElem?_getD, List.getElem?_eq_getElem hi]; rfl
    rw [← ht, List.getElem?_take_of_lt (by omega)] at h2
    exact h2
/-- The row: so many cells hold numbers. -/
def FnRow (f : Nat → Nat) (n g : Nat) (w : World) : Prop := (∀ j, j < n → w.cell? ⟨g, j, none⟩ = some (.int .u64 (f j))) ∧ ∀ j, w.frozen? ⟨g, j, none⟩ = false
theorem FnRow.kept {f : Nat → Nat} {n g : Nat} {S : List Nat} {w w' : World} (h : FnRow f n g w) (hg : g < w.heap.size) (k : Kept S w w') (hn : g ∉ S) : FnRow f n g w' :=
  ⟨fun j hj => (k.cell (p := ⟨g, j, none⟩) hg hn).trans (h.1 j hj), fun j => (k.frozen (p := ⟨g, j, none⟩) hg hn).trans (h.2 j)⟩
/-- The order at the place i of the changing of places. -/
def fnO (sw : Nat → Bool) (i j : Nat) : Nat := if j < i then pS sw j else j
theorem fnO_end (sw : Nat → Bool) (n m i j : Nat) (hi : i % 2 = 1) (he : ¬ (i + 1 < n ∧ i < m)) (hsw : ∀ k, sw k = true → k + 1 < n ∧ k < m) : fnO sw i j = pS sw j := by
  unfold fnO
  by_cases h : j < i
  · rw [if_pos h]
  · rw [if_neg h]
    unfold pS
    by_cases ho : j % 2 = 1
    · rw [if_pos ho, if_neg (fun e => by have := hsw j e; omega)]
    · rw [if_neg ho, if_neg (fun e => by have := hsw (j - 1) e.2; omega)]
theorem fnO_same (sw : Nat → Bool) (i j : Nat) (hi : i % 2 = 1) (h : sw i = false) : fnO sw (i + 2) j = fnO sw i j := by
  unfold fnO
  by_cases h1 : j < i
  · rw [if_pos h1, if_pos (by omega)]
  · rw [if_neg h1]
    by_cases h2 : j < i + 2
    · rw [if_pos h2]
      unfold pS
      by_cases ho : j % 2 = 1
      · obtain rfl : j = i := by omega
        rw [if_pos ho, if_neg (by simp [h])]
      · obtain rfl : j = i + 1 := by omega
        rw [if_neg ho, if_neg (by simp [h])]
    · rw [if_neg h2]
theorem fnO_swap (sw : Nat → Bool) (i j : Nat) (hi : i % 2 = 1) (h : sw i = true) : fnO sw (i + 2) j = if j = i then i + 1 else if j = i + 1 then i else fnO sw i j := by
  unfold fnO
  by_cases h1 : j < i
  · rw [if_pos h1, if_pos (by omega), if_neg (by omega), if_neg (by omega)]
  · rw [if_neg h1]
    by_cases h2 : j < i + 2
    · rw [if_pos h2]
      unfold pS
      by_cases ho : j % 2 = 1
      · obtain rfl : j = i := by omega
        rw [if_pos ho, if_pos h, if_pos rfl]
      · obtain rfl : j = i + 1 := by omega
        rw [if_neg ho, if_pos ⟨by omega, by simpa using h⟩, if_neg (by omega), if_pos rfl]
        omega
    · rw [if_neg h2, if_neg (by omega), if_neg (by omega)]
/-- A row of bools that came in, opened. -/
theorem open_boolRow {H : Type} {enc : TypeId × Value → H} {W : World} {t e : TypeId} {p : Option Addr} {n c : Nat} {d : DataW H} {q : List MemPlace}
    (ht : Tryz.prog.underlying t = some (.slice e)) (he : Tryz.prog.underlying e = some .bool) (hc : Tryz.prog.cellsOf e = 1)
    (h : DataW.Trod enc Tryz.prog W 0 (fun _ => true) true t (.slice p n c) d q) :
    n ≤ c ∧ c ≤ 9223372036854775807 ∧ ∃ Bz : Nat → Bool, ∀ i, i < n → ∃ b o, p = some ⟨b, o, none⟩ ∧ b < W.heap.size ∧ W.cell? ⟨b, o + i, none⟩ = some (.bool (Bz i)) := by
  obtain ⟨fuel, hf⟩ := h
  rcases Go.Deep.open_bools ht he hc hf with ⟨hcs, hx⟩ | ⟨a, len', cap', Bz, hcs, _, hl, hm, hx, hcell⟩
  · simp [Value.cells] at hcs
    obtain ⟨rfl, rfl, rfl⟩ := hcs
    exact ⟨by omega, by omega, fun _ => false, fun i hi => absurd hi (Nat.not_lt_zero i)⟩
  · simp [Value.cells] at hcs
    obtain ⟨rfl, rfl, rfl⟩ := hcs
    have hm' : c ≤ 9223372036854775807 := hm
    refine ⟨hl, hm', Bz, fun i hi => ?_⟩
    obtain ⟨b, o, rfl, hb⟩ := addr_plain (hcell 0 (by omega))
    have h1 := hcell i (by omega)
    rw [add_plain] at h1
    exact ⟨b, o, rfl, hb, h1⟩
theorem cellSame (w : World) (g k : Nat) (y : Value) {x : Value} (h : w.cell? ⟨g, k, none⟩ = some x) : (w.setCell ⟨g, k, none⟩ y).cell? ⟨g, k, none⟩ = some y := by
  rw [World.cell?_setCell_same (h := h)]
theorem cellOff (w : World) (g k j : Nat) (y : Value) (h : j ≠ k) : (w.setCell ⟨g, k, none⟩ y).cell? ⟨g, j, none⟩ = w.cell? ⟨g, j, none⟩ := by
  rw [World.cell?_setCell_other (h := fun e => h (by injection e with _ e2 _; exact e2.symm))]
set_option maxHeartbeats 8000000 in
set_option maxRecDepth 100000 in
theorem feedNone_walk (first : Nat) (hfi : first < 18446744073709551616) (nz : Int) (n1 : -9223372036854775808 ≤ nz) (n2 : nz ≤ 9223372036854775807) (p : Option Addr) (m c : Nat) (hm : m ≤ c) (hc : c ≤ 9223372036854775807) (Bz : Nat → Bool) (w : World) (hT : TabW w)
    (hcb : ∀ i, i < m → ∃ b o, p = some ⟨b, o, none⟩ ∧ b < w.heap.size ∧ w.cell? ⟨b, o + i, none⟩ = some (.bool (Bz i))) :
    Calls Tryz.prog 6 #[.int .u64 first, .int .i64 nz, .slice p m c] w fun e w' => e = .returned (.bool true) ∧ Below w.heap.size w w' := by
  have HBG : Hid (Calls Tryz.prog 13 #[] w fun e w' => e = .returned (.bool true) ∧ Below w.heap.size w w') := Lib.hid (begun8_any w hT)
  have hgl : 2 < w.heap.size := World.block_lt_of_cell? w ⟨2, 0, none⟩ (hT 0 (by decide))
  have HTW := Lib.hid hT
  have HCB := Lib.hid hcb
  have HGL := Lib.hid hgl
  clear hT hcb hgl
  obtain ⟨a0, e0, e01, e02, N0, e03, e04⟩ := mod_at nz 60 (by decide)
  obtain ⟨n, hn⟩ : ∃ n : Nat, 1 + (N0 : Int) = (n : Int) := ⟨1 + N0, by omega⟩
  have hn1 : 1 ≤ n := by omega
  have hn60 : n ≤ 60 := by omega
  obtain ⟨sw, hsw⟩ : ∃ sw : Nat → Bool, ∀ i, sw i = (decide (i + 1 < n ∧ i < m) && Bz i) := ⟨_, fun _ => rfl⟩
  have HSW : Hid (∀ k, sw k = true → k + 1 < n ∧ k < m) := Lib.hid (fun k hk => by rw [hsw k] at hk; simp at hk; exact hk.1)
  have HSB : Hid (∀ k, k + 1 < n → k < m → sw k = Bz k) := Lib.hid (fun k h1 h2 => by rw [hsw k, decide_eq_true ⟨h1, h2⟩]; rfl)
  have HST : Hid (∀ (j : Nat), j ≤ 100 → ∀ W, Calls Tryz.prog 16 #[.int .u64 first, .int .i64 j] W fun e w' => e = .returned (.int .u64 (nF first j : Nat)) ∧ W = w') := Lib.hid (fun j hj W => by
    have h9 := refStep_any first j hfi (by omega) (by omega) W
    rw [nF_step] at h9
    exact h9)
  clear hsw
  obtain ⟨B, hB⟩ : ∃ B, w.heap.size = B := ⟨_, rfl⟩
  have HBe := Lib.hid hB
  go_enter Tryz.func6, Tryz.ntmps6
  go_upto_region 6 with (first
    | (go_at_call 13; (with_reducible refine HBG.out.mono ?_); rintro e w0 ⟨rfl, hb0⟩)
    | (go_at_call 24; (with_reducible refine (feedNew_any 1000 (by decide) (by decide) _).mono ?_); rintro e w1 ⟨C, rfl, hg1, hc1, hb1⟩))
  have HB1 : Hid (Below B w w1) := Lib.hid (by rw [← hB]; exact bel_trans hb0 hb1)
  have HBC : Hid (B ≤ C ∧ C < w1.heap.size) := Lib.hid ⟨by rw [← hB]; exact Nat.le_trans hb0.size hc1, World.block_lt_of_cell? w1 ⟨C, 0, none⟩ hg1.head.1⟩
  have HF1 := Lib.hid hg1
  have HNIL := Lib.hid (U64Own.nil w1)
  clear hb0 hg1 hc1 hb1 hB e0 e03
  go_wp2
  go_loopw [9, 10] (fun v i wr => ∃ j : Nat, i = .int .i64 (j : Int) ∧ j ≤ n ∧ Hid (U64Own w1.heap.size v ((List.range j).map (nF first)) w1 wr)) (fun _ i _ => n - (intOf i).toNat)
  case atStart => exact ⟨0, rfl, by omega, HNIL⟩
  case round =>
    obtain ⟨j, rfl, hj, hown⟩ := hrel
    by_cases hjk : j < n
    · have d0 : decide ((j : Int) < (n : Int)) = true := decide_eq_true (by omega)
      have HS1 := Lib.hid (HST.out j (by omega))
      have HCELL : Hid (∀ i, i < ([nF first j] : List Nat).length → (wr.alloc (.cells #[.int .u64 (nF first j : Nat)] 22)).cell? ⟨wr.heap.size, 0 + i, none⟩ = some (.int .u64 (([nF first j] : List Nat).getD i 0))) := Lib.hid (fun i hi => by
        have : i = 0 := by simp at hi; omega
        subst this
        rw [cell_of_row _ _ _ _ _ _ (heap_alloc_new wr _)]; rfl)
      generalize hN : nF first j = N at *
      go_upto_region 9 with (first
        | (go_at_call 16; (with_reducible refine (HS1.out _).mono ?_); rintro e w5 ⟨rfl, rfl⟩)
        | (at_builtin; refine wp_u64s rfl _ _ rfl w1.heap.size u9 ((List.range j).map (nF first)) [N] rfl w1 _ (hown.out.kept (bel_alloc wr _)) wr.heap.size 0 1 rfl HCELL.out (by simp; omega) (by simp) ?_; intro v2 w9 ho9))
      have HO9 : Hid (U64Own w1.heap.size v2 ((List.range (j + 1)).map (nF first)) w1 w9) := Lib.hid (by rw [List.range_succ, List.map_append, List.map_singleton, hN]; exact ho9)
      clear ho9 HCELL hown HS1 hN
      go_wp2
      refine ⟨⟨j + 1, by go_num, by omega, HO9⟩, ?_⟩
      simp [intOf]; omega
    · have d0 : decide ((j : Int) < (n : Int)) = false := decide_eq_false (by omega)
      obtain rfl : j = n := by omega
      have hbl := hown.out.2.1
      obtain ⟨g, cg, hv, hgc, hgm, hgB, hglt, hgcell, hgfr⟩ := fnShape hown.out (by simp; omega)
      rw [List.length_map, List.length_range] at hv hgc hgcell
      subst hv
      have HR0 : Hid (FnRow (fun k => nF first (fnO sw 1 k)) j g wr) := Lib.hid ⟨fun k hk => by
        rw [hgcell k hk, List.getD_eq_getElem?_getD, List.getElem?_map, List.getElem?_range hk]
        have e9 : fnO sw 1 k = k := by
          unfold fnO
          by_cases h : k < 1
          · obtain rfl : k = 0 := by omega
            rfl
          · rw [if_neg h]
        show some (Value.int .u64 ((nF first k : Nat) : Int)) = some (Value.int .u64 ((nF first (fnO sw 1 k) : Nat) : Int))
        rw [e9], hgfr⟩
      have HBL := Lib.hid hbl
      have HGB : Hid (w1.heap.size ≤ g ∧ g < wr.heap.size) := Lib.hid ⟨hgB, hglt⟩
      clear hgcell hgfr hbl hown hgB hglt hj hjk
      have HFR := Lib.hid (HF1.out.below HBL.out)
      go_wp2
      go_loopw [11] (fun i wq => ∃ i' : Nat, i = .int .i64 (i' : Int) ∧ i' % 2 = 1 ∧ i' ≤ 100 ∧ Hid (FnRow (fun k => nF first (fnO sw i' k)) j g wq) ∧ Hid (Below w1.heap.size w1 wq) ∧ Hid (g < wq.heap.size)) (fun i _ => 100 - (intOf i).toNat)
      case atStart => exact ⟨1, rfl, rfl, by omega, HR0, HBL, Lib.hid HGB.out.2⟩
      case round =>
        obtain ⟨i, rfl, hi, hi9, hrow, hbl, hgl⟩ := hrel
        by_cases hin : i + 1 < j ∧ i < m
        · obtain ⟨j0, j1⟩ := hin
          have d0 : decide ((i : Int) + 1 < (j : Int)) = true := decide_eq_true (by omega)
          have d1 : decide ((i : Int) < (m : Int)) = true := decide_eq_true (by omega)
          obtain ⟨b, o, rfl, q0, x0⟩ := HCB.out i j1
          have q1 : b < w1.heap.size := Nat.lt_of_lt_of_le q0 HB1.out.size
          have y0 : wr.cell? ⟨b, o + i, none⟩ = some (.bool (Bz i)) := (hbl.out.cell (p := ⟨b, o + i, none⟩) q1).trans ((HB1.out.cell (p := ⟨b, o + i, none⟩) (by rw [← HBe.out]; exact q0)).trans x0)
          have hs := HSB.out i j0 j1
          clear x0 q0
          cases hz : Bz i with
          | true =>
            rw [hz] at y0 hs
            have u0 := hrow.out.1 i (by omega)
            have u1 := hrow.out.1 (i + 1) (by omega)
            have f0 := hrow.out.2 i
            have f1 := hrow.out.2 (i + 1)
            have ez : fnO sw i i = i := by unfold fnO; rw [if_neg (by omega)]
            have ez1 : fnO sw i (i + 1) = i + 1 := by unfold fnO; rw [if_neg (by omega)]
            simp only [ez, ez1] at u0 u1
            generalize hU0 : nF first i = U0 at *
            generalize hU1 : nF first (i + 1) = U1 at *
            have z0 : decide ((i : Int) < 0) = false := decide_eq_false (by omega)
            go_wp2
            go_region
            have hrow2 : FnRow (fun k => nF first (fnO sw (i + 2) k)) j g ((wr.setCell ⟨g, i, none⟩ (.int .u64 U1)).setCell ⟨g, i + 1, none⟩ (.int .u64 U0)).drew := by
              have h9 := hrow.out
              refine ⟨fun k hk => ?_, fun k => ?_⟩
              · show ((wr.setCell ⟨g, i, none⟩ (.int .u64 U1)).setCell ⟨g, i + 1, none⟩ (.int .u64 U0)).cell? ⟨g, k, none⟩ = some (.int .u64 ((nF first (fnO sw (i + 2) k) : Nat) : Int))
                rw [fnO_swap sw i k hi hs]
                by_cases k1 : k = i + 1
                · subst k1
                  rw [if_neg (by omega), if_pos rfl, hU0]
                  exact cellSame _ _ _ _ ((cellOff wr g i (i + 1) _ (by omega)).trans u1)
                · rw [cellOff _ _ _ _ _ k1]
                  by_cases k2 : k = i
                  · subst k2
                    rw [if_pos rfl, hU1]
                    exact cellSame _ _ _ _ u0
                  · rw [cellOff _ _ _ _ _ k2, if_neg k2, if_neg k1]
                    exact h9.1 k hk
              · show ((wr.setCell ⟨g, i, none⟩ (.int .u64 U1)).setCell ⟨g, i + 1, none⟩ (.int .u64 U0)).frozen? ⟨g, k, none⟩ = false
                simp only [World.frozen?_setCell]
                exact h9.2 k
            have HR2 := Lib.hid hrow2
            have HL2 : Hid (Below w1.heap.size w1 ((wr.setCell ⟨g, i, none⟩ (.int .u64 U1)).setCell ⟨g, i + 1, none⟩ (.int .u64 U0)).drew) := Lib.hid ((hbl.out.setCell (p := ⟨g, i, none⟩) HGB.out.1 _).setCell (p := ⟨g, i + 1, none⟩) HGB.out.1 _).drew
            have HG2 : Hid (g < ((wr.setCell ⟨g, i, none⟩ (.int .u64 U1)).setCell ⟨g, i + 1, none⟩ (.int .u64 U0)).drew.heap.size) := Lib.hid (by have := hgl.out; simpa using this)
            generalize ((wr.setCell ⟨g, i, none⟩ (.int .u64 U1)).setCell ⟨g, i + 1, none⟩ (.int .u64 U0)).drew = wx at *
            clear u0 u1 f0 f1 hrow hbl hgl y0 hU0 hU1 hrow2
            go_upto_region 13 with fail
            go_wp2
            refine ⟨⟨i + 2, by go_num, by omega, by omega, HR2, HL2, HG2⟩, ?_⟩
            simp [intOf]; omega
          | false =>
            rw [hz] at y0 hs
            go_wp2
            refine ⟨⟨i + 2, by go_num, by omega, by omega, Lib.hid (by have h9 := hrow.out; simp only [fnO_same sw i _ hi hs]; exact h9), hbl, hgl⟩, ?_⟩
            simp [intOf]; omega
        · have HRZ : Hid (FnRow (fun k => nF first (pS sw k)) j g wr) := Lib.hid (by have h9 := hrow.out; simp only [fnO_end sw j m i _ hi hin HSW.out] at h9; exact h9)
          have HFZ : Hid (FdAt (FdS.fresh 1000) (.slice none 0 0) C wr) := Lib.hid (HF1.out.below hbl.out)
          have HBZ : Hid (Below B w wr) := Lib.hid (HB1.out.trans (hbl.out.mono (by rw [← HBe.out]; exact HB1.out.size)))
          have HGZ : Hid (g < wr.heap.size ∧ g ≠ C) := Lib.hid ⟨hgl.out, by have := HGB.out.1; have := HBC.out.2; omega⟩
          have HSWZ : Hid (¬ (j % 2 = 0 ∧ sw (j - 1) = true)) := Lib.hid (fun e => by have := HSW.out (j - 1) e.2; omega)
          clear hrow hbl hgl HR0 HBL HFR HF1 HB1 HNIL HGB HSW HSB HST HCB
          have HGW : Hid (TabW w ∧ 2 ≠ C ∧ C ≠ 2) := Lib.hid ⟨HTW.out, by have := HGL.out; have := HBC.out; have := HBe.out; omega, by have := HGL.out; have := HBC.out; have := HBe.out; omega⟩
          rcases (show ¬ i + 1 < j ∨ (i + 1 < j ∧ ¬ i < m) by omega) with g0 | ⟨g0, g1⟩
          all_goals (first
            | (have d0 : decide ((i : Int) + 1 < (j : Int)) = false := decide_eq_false (by omega)
               clear hin
               go_wp2
               clear d0 g0)
            | (have d0 : decide ((i : Int) + 1 < (j : Int)) = true := decide_eq_true (by omega)
               have d1 : decide ((i : Int) < (m : Int)) = false := decide_eq_false (by omega)
               clear hin
               go_wp2
               clear d0 d1 g0 g1))
          all_goals
            go_loopw [12, 73] (fun _ x wq => ∃ (k : Nat) (T : Int) (s : FdS), x = .int .i64 (k : Int) ∧ k ≤ j ∧ 0 ≤ T ∧ (T ≤ 10 * k) ∧ (1 ≤ k → T = 10 * k - 10) ∧ (k = 0 → T = 0) ∧ Hid (FnSt first sw k T s) ∧ Hid (FdAt s (.slice none 0 0) C wq) ∧ Hid (FnRow (fun k => nF first (pS sw k)) j g wq) ∧ Hid (Below B w wq) ∧ Hid (g < wq.heap.size)) (fun _ x _ => j - (intOf x).toNat)
            case atStart => exact ⟨0, 0, FdS.fresh 1000, rfl, by omega, by omega, by omega, by omega, by omega, Lib.hid (.inl ⟨rfl, rfl, rfl⟩), HFZ, HRZ, HBZ, Lib.hid HGZ.out.1⟩
            case round =>
              clear HFZ HRZ HBZ
              obtain ⟨k, T, s, rfl, hk, hT0, hT1, hT2, hT3, hst, hfd, hrow, hbl, hgl⟩ := hrel
              by_cases hkj : k < j
              · have d0 : decide ((k : Int) < (j : Int)) = true := decide_eq_true (by omega)
                obtain ⟨T2, hT4⟩ : ∃ T2 : Int, (k : Int) * 10 = T2 := ⟨_, rfl⟩
                have c0 := hrow.out.1 k hkj
                simp only at c0
                have HP1 := Lib.hid (fnStep1 hst.out (by omega) T2 (by omega) (by omega) (by omega) (by omega) C wr hfd.out)
                have HP2 := Lib.hid (fun (s' : FdS) (W : World) (h : FnSt first sw (k + 1) T2 s') (h2 : FdAt s' (.slice none 0 0) C W) => fnStep2 h (by omega) T2 (by omega) (by omega) C W h2)
                generalize nF first (pS sw k) = N at *
                have hz0 : decide ((k : Int) < 0) = false := decide_eq_false (by omega)
                go_upto_region 21 with (go_at_call 25; (first
                  | ((with_reducible refine HP1.out.mono ?_); rintro e wa ⟨rfl, sa, ha1, ha2, ha3⟩; have c1 : wa.cell? ⟨g, k, none⟩ = some (.int .u64 (N : Int)) := (ha3.cell (p := ⟨g, k, none⟩) hgl.out (by have := HGZ.out.2; simpa using this)).trans c0)
                  | ((with_reducible refine (HP2.out _ _ ha1 ha2).mono ?_); rintro e wb ⟨rfl, sb, hb1, hb2, hb3⟩)))
                have hkk := ha3.trans hb3 (fun x hx => .inl hx)
                have hsz : B ≤ wr.heap.size := by have := hbl.out.size; have := HBe.out; omega
                have HB2 : Hid (Below B w wb) := Lib.hid (hbl.out.trans (hkk.below hsz (by intro x hx; have := HBC.out; simp at hx; omega)))
                have HR2 := Lib.hid (hrow.out.kept hgl.out hkk (by have := HGZ.out.2; simpa using this))
                have HG2 : Hid (g < wb.heap.size) := Lib.hid (Nat.lt_of_lt_of_le hgl.out hkk.size)
                have HS2 := Lib.hid hb1
                have HF2 := Lib.hid hb2
                clear ha1 ha2 ha3 hb1 hb2 hb3 hkk c0 c1 HP1 HP2 hrow hbl hgl hst hfd
                go_wp2
                refine ⟨⟨k + 1, T2, sb, by go_num, by omega, by omega, by omega, by omega, by omega, HS2, HF2, HR2, HB2, HG2⟩, ?_⟩
                simp [intOf]; omega
              · have d0 : decide ((k : Int) < (j : Int)) = false := decide_eq_false (by omega)
                obtain rfl : k = j := by omega
                have hG : FnG first k false T (100 * k) s := by
                  rcases hst.out with ⟨h1, _⟩ | ⟨_, _, h4⟩ | ⟨_, h3, h5, _⟩
                  · omega
                  · exact h4
                  · exact absurd ⟨h3, h5⟩ HSWZ.out
                have hnow := hG.now
                obtain ⟨Q, hQ⟩ : ∃ Q : Nat, 6400 * (k : Int) = (Q : Int) := ⟨6400 * k, by omega⟩
                have HIV := Lib.hid (feedIntervals_none s C wr hfd.out)
                have HTE1 : Hid (∀ na, Calls Tryz.prog 27 #[.pointer (some ⟨C, 0, none⟩), .int .i64 1000000] (wr.drewN na) fun e w' => e = .returned (.tuple #[.int .u64 (Q : Int), .int .u64 0]) ∧ FdAt (s.told 1000000) (.slice none 0 0) C w' ∧ Below B w w') := Lib.hid (fun na => by
                  have h9 := feedTell_none s 1000000 0 1000000 (by omega) (by rw [hG.since]; rfl) (by decide) (by decide) 1000000 (by decide) (by rw [hG.bytes]; omega) none 0 (by decide) C (wr.drewN na) (HGW.out.1.below (by rw [HBe.out]; exact hbl.out.trans ((bel_drewN wr na).mono (by have := hbl.out.size; have := HBe.out; omega)))) HGW.out.2.2 (hfd.out.below (bel_drewN wr na))
                  rw [hG.bytes, show 64 * (100 * k) * 1000000 / 1000000 = Q by omega] at h9
                  exact h9.mono fun e w' ⟨r1, r2, r3⟩ => ⟨r1, r2, (hbl.out.trans ((bel_drewN wr na).mono (by have := hbl.out.size; have := HBe.out; omega))).trans (r3.below (by have := hbl.out.size; have := HBe.out; have := (bel_drewN wr na).size; omega) (by intro x hx; have := HBC.out; simp at hx; omega))⟩)
                have HTE2 : Hid (∀ W, FdAt (s.told 1000000) (.slice none 0 0) C W → Below B w W → Calls Tryz.prog 27 #[.pointer (some ⟨C, 0, none⟩), .int .i64 1000000] W fun e w' => e = .returned (.tuple #[.int .u64 0, .int .u64 0]) ∧ FdAt ((s.told 1000000).told 1000000) (.slice none 0 0) C w' ∧ Below B w w') := Lib.hid (fun W hf hb => by
                  have h9 := feedTell_none (s.told 1000000) 1000000 1000000 1000000 (by show max (1000000 : Int) _ = _; decide) rfl (by decide) (by decide) 1 (by decide) (by show 0 ≤ 1048576; decide) none 0 (by decide) C W (HGW.out.1.below (by rw [HBe.out]; exact hb)) HGW.out.2.2 hf
                  rw [show 64 * (s.told 1000000).bytes * 1000000 / 1 = 0 by simp [FdS.told]] at h9
                  exact h9.mono fun e w' ⟨r1, r2, r3⟩ => ⟨r1, r2, hb.trans (r3.below (by have := hb.size; have := HBe.out; omega) (by intro x hx; have := HBC.out; simp at hx; omega))⟩)
                have HLO : Hid (∀ W, FdAt ((s.told 1000000).told 1000000) (.slice none 0 0) C W → Calls Tryz.prog 28 #[.pointer (some ⟨C, 0, none⟩)] W fun e w' => e = .returned (.int .i64 0) ∧ W = w') := Lib.hid (fun W hf => by
                  have h9 := feedLostN _ _ C W hf
                  rw [show ((s.told 1000000).told 1000000).lost = 0 from hG.lost] at h9
                  exact h9)
                have hbe := HBe.out
                clear hst hfd hrow hbl hgl hG hnow
                go_wp2_with (first
                  | (go_at_call 26; (with_reducible refine HIV.out.mono ?_); rintro e wa ⟨rfl, na, rfl⟩)
                  | (go_at_call 27; (first
                    | ((with_reducible refine (HTE1.out _).mono ?_); rintro e wb ⟨rfl, ht1, ht2⟩)
                    | ((with_reducible refine (HTE2.out _ ht1 ht2).mono ?_); rintro e wc ⟨rfl, ht3, ht4⟩)))
                  | (go_at_call 28; (with_reducible refine (HLO.out _ ht3).mono ?_); rintro e w5 ⟨rfl, rfl⟩))
                go_ret
                subst hbe
                exact ⟨rfl, ht4⟩
end Go.Proofs.YtkpginmdnlhfbaaGreatDoor
