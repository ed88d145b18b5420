/-
  Rows of unsigned numbers: of the call's own, grown, written.
  Rows of numbers, and of pairs of numbers, that came in as arguments, opened.
  The law IvalOrder, walked.
-/
import Derived.Test.YtnffdacajdjeoaaGreatDoorIvalA
import Derived.Laws.AppendOwn
import Derived.Lib.FrozenHead
import Derived.Test.YtnffdacajdjeoaaGreatDoorIntR
import Derived.Test.YtnffdacajdjeoaaGreatDoorVecB
import Derived.OpenShut
import Derived.ChangeSlices
import Derived.ChangeSame
import Derived.Deep.Slices
import Derived.Deep.SlicePairs
import Derived.Test.YtnffdacajdjeoaaGreatDoorIvalC
import Derived.Test.YtnffdacajdjeoaaGreatDoorBegun8
namespace Go.Proofs.YtnffdacajdjeoaaGreatDoor
open Go.ChangeShapes Go.WideShapes Go.ChangeAt Go.RowKit
set_option linter.unusedVariables false
set_option linter.unusedSimpArgs false

theorem infoU64 : (Tryz.prog.info? 41).map (fun i => (i.zero, i.size, i.bytes)) = some (some (.int .u64 0), 1, 8) := by kernel_rfl
def u64V (n : Nat) : Value := .int .u64 n
/-- A row of numbers that the call owns from block B on; below B nothing has turned since W0. -/
def U64Own (B : Nat) (v : Value) (l : List Nat) (W0 w : World) : Prop := w.ownsRow B 41 1 v l.length (l.map u64V) ∧ Below B W0 w ∧ B ≤ w.heap.size
theorem U64Own.nil (w : World) : U64Own w.heap.size (.slice none 0 0) [] w w := ⟨World.ownsRow_nil _ _ _ _, Below.refl _ _, Nat.le_refl _⟩
theorem U64Own.kept {B : Nat} {v : Value} {l : List Nat} {W0 w w' : World} (h : U64Own B v l W0 w) (hb : Below w.heap.size w w') : U64Own B v l W0 w' := by
  refine ⟨h.1.kept (row := none) ⟨hb.os, hb.tape, hb.output, hb.size, fun k hk _ => hb.block k hk⟩ ?_, h.2.1.trans (hb.mono h.2.2), Nat.le_trans h.2.2 hb.size⟩
  cases v.ownBlock <;> simp
theorem U64Own.at {B : Nat} {v : Value} {l : List Nat} {W0 w : World} (h : U64Own B v l W0 w) (hl : l.length ≤ 1073741824) (hs : ∀ i, l.getD i 0 < 18446744073709551616) : U64At w v l := by
  refine ⟨?_, hl, hs⟩
  rcases h.1.2 with ⟨rfl, h0⟩ | ⟨g, cap, cur, rfl, _, hg, hcap, hcm, _, ht⟩
  · exact ⟨none, 0, by rw [h0], by omega, by decide, fun i hi => by omega⟩
  · have hlt : g < w.heap.size := by
      rcases Nat.lt_or_ge g w.heap.size with hlt | hge
      · exact hlt
      · rw [Array.getElem?_eq_none hge] at hg; cases hg
    refine ⟨some ⟨g, 0, none⟩, cap, rfl, hcap, by unfold maxLen at hcm; omega, fun i hi => ⟨g, 0, rfl, hlt, ?_⟩⟩
    rw [cell_of_row w g (0 + i) cur _ _ hg, Nat.zero_add, ← Array.getElem?_toList]
    have h2 : (l.map u64V)[i]? = some (.int .u64 (l.getD i 0)) := by
      rw [List.getElem?_map, List.getElem?_eq_getElem hi, List.getD_eq_getElem?_getD, List.getElem?_eq_getElem hi]; rfl
    rw [← ht, List.getElem?_take_of_lt (by omega)] at h2
    exact h2
/-- A slice of numbers appended. -/
theorem wp_u64s {ops : Array Oper} {rest : List Oper} {o : Oper} {a : Act} {Q : Exit → Act → World → Prop} (hgd : o.guard = none) (s x : Operand)
    (ho : o.op = .call { callee := .builtin .append, args := #[s, x], argTypes := #[42, 42] })
    (B : Nat) (v : Value) (l m : List Nat) (hs : a.eval s = v) (W0 w : World) (hb : U64Own B v l W0 w) (b : Nat) (q c : Nat)
    (hx : a.eval x = .slice (some ⟨b, q, none⟩) m.length c) (hm : ∀ i, i < m.length → w.cell? ⟨b, q + i, none⟩ = some (.int .u64 (m.getD i 0))) (hlen : l.length ≤ 1073741824) (hlen2 : m.length ≤ 1073741824)
    (h : ∀ v' w', U64Own B v' (l ++ m) W0 w' → wpList Tryz.prog ops Q rest (a.put o.dst v') w') : wpList Tryz.prog ops Q (o :: rest) a w := by
  obtain ⟨i0, hi, hz0, hz1, hz2⟩ := info_parts infoU64
  refine wpList_append_own _ hgd s x 42 ho B 41 i0 (.int .u64 0) 1 8 Tryz.underlying42 hi hz0 hz1 hz2 rfl (by decide) v l.length (l.map u64V) hs hb.1 ⟨b, q, none⟩ m.length c (m.map u64V) hx (by simp) (fun j u hu => ?_) (fun u hu => ?_) (by unfold maxLen; omega) (by omega) hb.2.2 ?_
  · have hj : j < m.length := by
      rcases Nat.lt_or_ge j m.length with h1 | h1
      · exact h1
      · rw [List.getElem?_eq_none (by simpa using h1)] at hu; cases hu
    rw [List.getElem?_map, List.getElem?_eq_getElem hj] at hu
    have hc := hm j hj
    rw [List.getD_eq_getElem?_getD, List.getElem?_eq_getElem hj] at hc
    rw [show (⟨b, q, none⟩ : Addr).add j = ⟨b, q + j, none⟩ from by unfold Addr.add; split <;> simp_all, hc]
    simpa [u64V] using hu
  · obtain ⟨n, _, rfl⟩ := List.mem_map.1 hu; rfl
  · intro v' w' ho' hg _
    refine h v' w' ⟨?_, hb.2.1.grown hg hb.2.2 (fun k hk => (hb.1.lt k hk).1), Nat.le_trans hb.2.2 hg.size⟩
    rw [List.length_append, List.map_append]
    exact ho'
end Go.Proofs.YtnffdacajdjeoaaGreatDoor

namespace Go.Proofs.YtnffdacajdjeoaaGreatDoor
open Go.ChangeShapes Go.WideShapes Go.Deep Go.RowKit
set_option linter.unusedVariables false

theorem addr_plain {w : World} {a : Addr} {v : Value} (h : w.cell? (a.add 0) = some v) : ∃ b o, a = ⟨b, o, none⟩ ∧ b < w.heap.size := by
  have e : a.add 0 = a := by unfold Addr.add; split <;> simp_all
  rw [e] at h
  have hs : a.spot = none := by
    unfold World.cell? at h
    split at h
    · cases hsp : a.spot with
      | none => rfl
      | some x => rw [hsp] at h; simp at h
    · cases h
  have hb := World.block_lt_of_cell? w a h
  obtain ⟨b, o, sp⟩ := a
  simp only at hs
  subst hs
  exact ⟨b, o, rfl, hb⟩
theorem add_plain (b o k : Nat) : (⟨b, o, none⟩ : Addr).add k = ⟨b, o + k, none⟩ := by unfold Addr.add; split <;> simp_all

theorem open_row {H : Type} {enc : TypeId × Value → H} {W : World} {t e : TypeId} {k : IntKind} {p : Option Addr} {n c : Nat} {d : DataW H} {q : List MemPlace}
    (ht : Tryz.prog.underlying t = some (.slice e)) (he : Tryz.prog.underlying e = some (.int k)) (hc : Tryz.prog.cellsOf e = 1)
    (h : DataW.Trod enc Tryz.prog W 0 (fun _ => true) true t (.slice p n c) d q) :
    n ≤ c ∧ c ≤ 9223372036854775807 ∧ ∃ zs : List Int, n ≤ zs.length ∧ (∀ z ∈ zs, (Lit.int k z).wf = true) ∧ ∀ i, i < n → ∃ b o, p = some ⟨b, o, none⟩ ∧ b < W.heap.size ∧ W.cell? ⟨b, o + i, none⟩ = some (.int k (zs.getD i 0)) := by
  obtain ⟨fuel, hf⟩ := h
  rcases open_ints ht he hc hf with ⟨hcs, hx⟩ | ⟨a, len', cap', zs, hcs, _, hl, hm, hz, hx, hcell, hwz⟩
  · simp [Value.cells] at hcs
    obtain ⟨rfl, rfl, rfl⟩ := hcs
    exact ⟨by omega, by omega, [], by simp, by simp, fun i hi => absurd hi (Nat.not_lt_zero i)⟩
  · simp [Value.cells] at hcs
    obtain ⟨rfl, rfl, rfl⟩ := hcs
    simp only [if_true] at hz
    have hm' : c ≤ 9223372036854775807 := hm
    refine ⟨hl, hm', zs, by omega, hwz, fun i hi => ?_⟩
    obtain ⟨b, o, rfl, hb⟩ := addr_plain (hcell 0 (by omega))
    have h1 := hcell i (by omega)
    rw [add_plain] at h1
    exact ⟨b, o, rfl, hb, h1⟩

theorem getD_take_lt {α : Type} (l : List α) (d : α) (m i : Nat) (h : i < m) : (l.take m).getD i d = l.getD i d := by
  rw [List.getD_eq_getElem?_getD, List.getD_eq_getElem?_getD, List.getElem?_take, if_pos h]
theorem getD_prop {α : Type} {P : α → Prop} {l : List α} {d : α} (h : ∀ z ∈ l, P z) (hd : P d) (i : Nat) : P (l.getD i d) := by
  rw [List.getD_eq_getElem?_getD]
  by_cases hi : i < l.length
  · rw [List.getElem?_eq_getElem hi]; exact h _ (List.getElem_mem _)
  · rw [List.getElem?_eq_none (by omega)]; exact hd

/-- Its first m numbers, signed. -/
theorem open_i64s {H : Type} {enc : TypeId × Value → H} {W : World} {t e : TypeId} {p : Option Addr} {n c : Nat} {d : DataW H} {q : List MemPlace} (m : Nat) (hm : m ≤ 1073741824)
    (ht : Tryz.prog.underlying t = some (.slice e)) (he : Tryz.prog.underlying e = some (.int .i64)) (hc : Tryz.prog.cellsOf e = 1)
    (h : DataW.Trod enc Tryz.prog W 0 (fun _ => true) true t (.slice p n c) d q) :
    n ≤ c ∧ c ≤ 9223372036854775807 ∧ ∃ l : List Int, l.length = min n m ∧ I64At W (.slice p l.length c) l := by
  obtain ⟨h1, h2, zs, h3, h4, h5⟩ := open_row ht he hc h
  have hl : (zs.take (min n m)).length = min n m := by rw [List.length_take]; omega
  refine ⟨h1, h2, zs.take (min n m), hl, ⟨p, c, rfl, by omega, h2, fun i hi => ?_⟩, by omega, fun i => ?_⟩
  · rw [getD_take_lt _ _ _ _ (by omega)]
    exact h5 i (by omega)
  · exact getD_prop (P := fun z => -9223372036854775808 ≤ z ∧ z ≤ 9223372036854775807) (fun z hz => bounds_i64 (h4 z (List.mem_of_mem_take hz))) (by decide) i
/-- All its numbers, signed. -/
theorem open_i64w {H : Type} {enc : TypeId × Value → H} {W : World} {t e : TypeId} {p : Option Addr} {n c : Nat} {d : DataW H} {q : List MemPlace}
    (ht : Tryz.prog.underlying t = some (.slice e)) (he : Tryz.prog.underlying e = some (.int .i64)) (hc : Tryz.prog.cellsOf e = 1)
    (h : DataW.Trod enc Tryz.prog W 0 (fun _ => true) true t (.slice p n c) d q) :
    n ≤ c ∧ c ≤ 9223372036854775807 ∧ ∃ l : List Int, l.length = n ∧ ∀ i, i < l.length → ∃ b o, p = some ⟨b, o, none⟩ ∧ b < W.heap.size ∧ W.cell? ⟨b, o + i, none⟩ = some (.int .i64 (l.getD i 0)) := by
  obtain ⟨h1, h2, zs, h3, h4, h5⟩ := open_row ht he hc h
  have hl : (zs.take n).length = n := by rw [List.length_take]; omega
  refine ⟨h1, h2, zs.take n, hl, fun i hi => ?_⟩
  rw [getD_take_lt _ _ _ _ (by omega)]
  exact h5 i (by omega)
/-- Its first m numbers, without a sign. -/
theorem open_u64s {H : Type} {enc : TypeId × Value → H} {W : World} {t e : TypeId} {p : Option Addr} {n c : Nat} {d : DataW H} {q : List MemPlace} (m : Nat) (hm : m ≤ 1073741824)
    (ht : Tryz.prog.underlying t = some (.slice e)) (he : Tryz.prog.underlying e = some (.int .u64)) (hc : Tryz.prog.cellsOf e = 1)
    (h : DataW.Trod enc Tryz.prog W 0 (fun _ => true) true t (.slice p n c) d q) :
    n ≤ c ∧ c ≤ 9223372036854775807 ∧ ∃ l : List Nat, l.length = min n m ∧ U64At W (.slice p l.length c) l := by
  obtain ⟨h1, h2, zs, h3, h4, h5⟩ := open_row ht he hc h
  have hb : ∀ i, 0 ≤ zs.getD i 0 ∧ zs.getD i 0 ≤ 18446744073709551615 := fun i => getD_prop (P := fun z => 0 ≤ z ∧ z ≤ 18446744073709551615) (fun z hz => bounds_u64 (h4 z hz)) (by decide) i
  have hl : ((zs.take (min n m)).map Int.toNat).length = min n m := by rw [List.length_map, List.length_take]; omega
  have hg : ∀ i, i < min n m → ((((zs.take (min n m)).map Int.toNat).getD i 0 : Nat) : Int) = zs.getD i 0 := fun i hi => by
    have h6 := hb i
    rw [List.getD_eq_getElem?_getD] at h6
    rw [List.getD_eq_getElem?_getD, List.getD_eq_getElem?_getD, List.getElem?_map, List.getElem?_take, if_pos hi]
    have hz : i < zs.length := by omega
    rw [List.getElem?_eq_getElem hz] at h6 ⊢
    simp only [Option.getD_some, Option.map_some] at h6 ⊢
    omega
  refine ⟨h1, h2, (zs.take (min n m)).map Int.toNat, hl, ⟨p, c, rfl, by omega, h2, fun i hi => ?_⟩, by omega, fun i => ?_⟩
  · rw [hg i (by omega)]
    exact h5 i (by omega)
  · by_cases hi : i < min n m
    · have h6 := hb i
      have h7 := hg i hi
      omega
    · rw [List.getD_eq_getElem?_getD, List.getElem?_eq_none (by omega)]
      decide

/-- A row of pairs of numbers, whole. -/
theorem open_pairs {H : Type} {enc : TypeId × Value → H} {W : World} {t e : TypeId} {f0 f1 : Field} {p : Option Addr} {n c : Nat} {d : DataW H} {q : List MemPlace}
    (ht : Tryz.prog.underlying t = some (.slice e)) (he : Tryz.prog.underlying e = some (.struct #[f0, f1])) (ce : Tryz.prog.cellsOf e = 2) (o0 : f0.offset = 0) (o1 : f1.offset = 1) (c0 : Tryz.prog.cellsOf f0.type = 1) (c1 : Tryz.prog.cellsOf f1.type = 1)
    (u0 : Tryz.prog.underlying f0.type = some (.int .i64)) (u1 : Tryz.prog.underlying f1.type = some (.int .i64))
    (h : DataW.Trod enc Tryz.prog W 0 (fun _ => true) true t (.slice p n c) d q) :
    n ≤ c ∧ c ≤ 9223372036854775807 ∧ ∃ l : List Cel, l.length = n ∧ (∀ x ∈ l, -9223372036854775808 ≤ x.2 ∧ x.2 ≤ 9223372036854775807) ∧
      ∀ i, i < l.length → ∃ b o, p = some ⟨b, o, none⟩ ∧ b < W.heap.size ∧ W.cell? ⟨b, o + i * 2, none⟩ = some (.int .i64 (l.getD i (0, 0)).1) ∧ W.cell? ⟨b, o + i * 2 + 1, none⟩ = some (.int .i64 (l.getD i (0, 0)).2) := by
  obtain ⟨fuel, hf⟩ := h
  rcases open_slice_pairs ht he ce o0 o1 c0 c1 hf with ⟨hcs, hx⟩ | ⟨a, len, cap, m, n', V0, V1, D0, D1, P0, P1, hcs, _, hl, hm, hmm, hx, hi⟩
  · simp [Value.cells] at hcs
    obtain ⟨rfl, rfl, rfl⟩ := hcs
    exact ⟨by omega, by omega, [], rfl, by simp, fun i hi => absurd hi (Nat.not_lt_zero i)⟩
  · simp [Value.cells] at hcs
    obtain ⟨rfl, rfl, rfl⟩ := hcs
    have hm' : c ≤ 9223372036854775807 := hm
    simp only [if_true] at hmm
    have key : ∀ i, i < n → ∃ x : Cel, V0 i = .int .i64 x.1 ∧ V1 i = .int .i64 x.2 ∧ (-9223372036854775808 ≤ x.2 ∧ x.2 ≤ 9223372036854775807) := by
      intro i hin
      obtain ⟨_, _, k0, k1⟩ := hi i (by omega)
      obtain ⟨z0, hz0, _, _⟩ := DataW.trod_int u0 k0
      obtain ⟨z1, hz1, _, hw1⟩ := DataW.trod_int u1 k1
      simp at hz0 hz1
      exact ⟨(z0, z1), hz0, hz1, bounds_i64 hw1⟩
    have hlist : ∀ m', m' ≤ n → ∃ l : List Cel, l.length = m' ∧ (∀ x ∈ l, -9223372036854775808 ≤ x.2 ∧ x.2 ≤ 9223372036854775807) ∧ ∀ i, i < m' → V0 i = .int .i64 (l.getD i (0, 0)).1 ∧ V1 i = .int .i64 (l.getD i (0, 0)).2 := by
      intro m'
      induction m' with
      | zero => exact fun _ => ⟨[], rfl, by simp, fun i hi => absurd hi (Nat.not_lt_zero i)⟩
      | succ m' ih =>
        intro hmn
        obtain ⟨l, hl1, hl2, hl3⟩ := ih (by omega)
        obtain ⟨x, hx0, hx1, hx2⟩ := key m' (by omega)
        refine ⟨l ++ [x], by simp [hl1], fun y hy => ?_, fun i hi' => ?_⟩
        · rcases List.mem_append.1 hy with h8 | h8
          · exact hl2 y h8
          · rw [List.mem_singleton.1 h8]; exact hx2
        · by_cases e' : i < m'
          · have h9 := hl3 i e'
            rw [List.getD_eq_getElem?_getD] at h9 ⊢
            rwa [List.getElem?_append_left (by omega)]
          · obtain rfl : i = m' := by omega
            rw [List.getD_eq_getElem?_getD, List.getElem?_append_right (by omega), hl1]
            simpa using ⟨hx0, hx1⟩
    obtain ⟨l, hl1, hl2, hl3⟩ := hlist n (Nat.le_refl _)
    refine ⟨hl, hm', l, hl1, hl2, fun i hi' => ?_⟩
    have h0 := (hi 0 (by omega)).1
    rw [Nat.zero_mul] at h0
    obtain ⟨b, o, rfl, hb⟩ := addr_plain h0
    obtain ⟨h6, h7, _, _⟩ := hi i (by omega)
    obtain ⟨h8, h9⟩ := hl3 i (by omega)
    rw [add_plain] at h6 h7
    rw [h8] at h6
    rw [h9] at h7
    exact ⟨b, o, rfl, hb, h6, h7⟩
end Go.Proofs.YtnffdacajdjeoaaGreatDoor

namespace Go.Proofs.YtnffdacajdjeoaaGreatDoor
open Go.ChangeShapes Go.WideShapes Go.ChangeAt Go.RowKit
set_option linter.unusedVariables false
set_option linter.unusedSimpArgs false

theorem U64At.nil (w : World) : U64At w (.slice none 0 0) [] := ⟨⟨none, 0, rfl, by simp, by decide, fun i hi => by simp at hi⟩, by simp, fun i => by simp⟩
/-- A row of the call's own that is not empty, cell by cell. -/
theorem U64Own.shape {B : Nat} {v : Value} {l : List Nat} {W0 w : World} (h : U64Own B v l W0 w) (hne : 0 < l.length) : ∃ g c, v = .slice (some ⟨g, 0, none⟩) l.length c ∧ l.length ≤ c ∧ c ≤ 9223372036854775807 ∧ B ≤ g ∧ g < w.heap.size ∧
    (∀ i, i < l.length → w.cell? ⟨g, i, none⟩ = some (.int .u64 (l.getD i 0))) ∧ ∀ i, w.frozen? ⟨g, i, none⟩ = false := by
  rcases h.1.2 with ⟨rfl, h0⟩ | ⟨g, cap, cur, rfl, hB, hg, hcap, hcm, _, ht⟩
  · omega
  · have hlt : g < w.heap.size := by
      rcases Nat.lt_or_ge g w.heap.size with hlt | hge
      · exact hlt
      · rw [Array.getElem?_eq_none hge] at hg; cases hg
    refine ⟨g, cap, rfl, hcap, by unfold maxLen at hcm; omega, hB, hlt, fun i hi => ?_, fun i => frozen_of_row w g i _ _ hg⟩
    rw [cell_of_row w g i cur _ _ hg, ← Array.getElem?_toList]
    have h2 : (l.map u64V)[i]? = some (.int .u64 (l.getD i 0)) := by
      rw [List.getElem?_map, List.getElem?_eq_getElem hi, List.getD_eq_getElem?_getD, List.getElem?_eq_getElem hi]; rfl
    rw [← ht, List.getElem?_take_of_lt (by omega)] at h2
    exact h2
theorem getD_setN (l : List Nat) (k x i : Nat) (hk : k < l.length) : (l.set k x).getD i 0 = if i = k then x else l.getD i 0 := by
  rw [List.getD_eq_getElem?_getD, List.getD_eq_getElem?_getD, List.getElem?_set]
  by_cases h : k = i
  · subst h; simp [hk]
  · rw [if_neg h, if_neg (fun e => h e.symm)]
theorem cell_set_same (w : World) (g k : Nat) (y : Value) {x : Value} (h : w.cell? ⟨g, k, none⟩ = some x) : (w.setCell ⟨g, k, none⟩ y).cell? ⟨g, k, none⟩ = some y := by
  rw [World.cell?_setCell_same (h := h)]
theorem cell_set_off (w : World) (g k j : Nat) (y : Value) (h : j ≠ k) : (w.setCell ⟨g, k, none⟩ y).cell? ⟨g, j, none⟩ = w.cell? ⟨g, j, none⟩ := by
  rw [World.cell?_setCell_other (h := fun e => h (by injection e with _ e2 _; exact e2.symm))]
namespace M
/-- One more length turns the rate never up; behind the eighth not at all. -/
theorem rate_order (o more k : Nat) (l : List Nat) (hk : k < l.length) (ho : o < 18446744073709551616) (hs : ∀ i, l.getD i 0 < 18446744073709551616) :
    lossRate o (l.set k (addT (l.getD k 0) more)) ≤ lossRate o l ∧ lossRate (addT o more) l ≤ lossRate o l ∧ (8 ≤ k → lossRate o (l.set k (addT (l.getD k 0) more)) = lossRate o l) := by
  have hlk := hs k
  refine ⟨?_, ?_, fun h8 => ?_⟩
  · refine lossRate_mono _ _ _ _ (by simp) (weighLen_mono _ _ _ _ (Nat.le_refl _) (by simp) (fun i => ?_))
    rw [getD_setN l k _ i hk]
    split
    · rename_i h; subst h; rw [addT_min]; omega
    · exact Nat.le_refl _
  · refine lossRate_mono _ _ _ _ rfl (weighLen_mono _ _ _ _ (by rw [addT_min]; omega) rfl (fun i => Nat.le_refl _))
  · have ht : (l.set k (addT (l.getD k 0) more)).take 8 = l.take 8 := by
      rw [List.take_set_of_le h8]
    have hne : l ≠ [] := fun e => by subst e; simp at hk
    have hne2 : l.set k (addT (l.getD k 0) more) ≠ [] := fun e => by
      have := congrArg List.length e
      rw [List.length_set, List.length_nil] at this
      omega
    unfold lossRate weighTot weighLen
    rw [if_neg hne, if_neg hne2, ht]
end M

set_option maxHeartbeats 4000000 in
set_option maxRecDepth 100000 in
theorem ivalOrder_walk (o : Nat) (ho : o < 18446744073709551616) (p : Option Addr) (n cap : Nat) (l : List Nat) (i : Int) (i1 : -9223372036854775808 ≤ i) (i2 : i ≤ 9223372036854775807) (more : Nat) (hmo : more < 18446744073709551616) (w : World) (hT : TabW w) (hn : n ≤ cap) (hcap : cap ≤ 9223372036854775807)
    (hk : l.length = min n 10) (hv : U64At w (.slice p l.length cap) l) :
    Calls Tryz.prog 12 #[.int .u64 o, .slice p n cap, .int .i64 i, .int .u64 more] w fun e w' => e = .returned (.bool true) ∧ Below w.heap.size w w' := by
  have HBG : Hid (∀ W, Below w.heap.size w W → Calls Tryz.prog 18 #[] W fun e w' => e = .returned (.bool true) ∧ Below W.heap.size W w') := Lib.hid (fun W hb => begun8_any W (hT.below hb))
  have hmin : min (n : Int) 10 = (l.length : Int) := by omega
  have hkc : l.length ≤ 10 := by omega
  have hkn : l.length ≤ n := by omega
  by_cases hl0 : l = []
  · subst hl0
    have HR : Hid (∀ W, Below w.heap.size w W → Calls Tryz.prog 33 #[.int .u64 o, .slice none 0 0] W fun e w' => e = .returned (.int .u64 0) ∧ Below W.heap.size W w') := Lib.hid (fun W hb =>
      (rate_any o _ [] ho W (hT.below hb) (U64At.nil W)).mono fun e w' ⟨h1, k, h2⟩ => ⟨h1, by rw [h2]; exact bel_drewN _ k⟩)
    have hmin0 : min (n : Int) 10 = 0 := hmin
    clear hT hk hv hmin
    go_enter Tryz.func12, Tryz.ntmps12
    go_wp2_with (first
      | (go_at_call 18; refine (HBG.out _ (by first | exact Below.refl _ _ | exact bel_alloc _ _ | exact bel_trans (bel_alloc _ _) (bel_alloc _ _))).mono ?_; rintro e w0 ⟨rfl, hb0⟩)
      | (go_at_call 33; (with_reducible refine (HR.out _ hb0).mono ?_); rintro e w1 ⟨rfl, hb1⟩))
    go_ret
    exact ⟨rfl, bel_trans hb0 hb1⟩
  · have hlp : 0 < l.length := List.length_pos_iff.2 hl0
    have hsm := hv.small
    obtain ⟨p', cap', hve, _, _, hcc⟩ := hv.at_
    obtain ⟨b, q, hpe, hbl, _⟩ := hcc 0 hlp
    have hpp : p = some ⟨b, q, none⟩ := by injection hve with e1 _ _; rw [e1]; exact hpe
    subst hpp
    have HC : Hid (∀ W, Below w.heap.size w W → ∀ j, j < l.length → W.cell? ⟨b, q + j, none⟩ = some (.int .u64 (l.getD j 0))) := Lib.hid (fun W hb j hj => by
      obtain ⟨b', q', e', hlt', hc'⟩ := hcc j hj
      have e1 : p' = some ⟨b, q, none⟩ := (Value.slice.inj hve).1.symm
      rw [e1] at e'
      obtain ⟨rfl, rfl⟩ : b = b' ∧ q = q' := by simpa using e'
      rw [hb.cell (p := ⟨b, q + j, none⟩) hlt']; exact hc')
    -- the place
    obtain ⟨K, hK⟩ : ∃ K : Nat, l.length = K := ⟨_, rfl⟩
    have HKK := Lib.hid hK
    obtain ⟨m1, m2⟩ : -(K : Int) < i.tmod K ∧ i.tmod K < K := by
      have hKp : (0 : Int) < K := by omega
      by_cases h : 0 ≤ i
      · rw [Int.tmod_eq_emod_of_nonneg h]
        have := Int.emod_nonneg i (show (K : Int) ≠ 0 by omega)
        have := Int.emod_lt_of_pos i hKp
        omega
      · have e : i.tmod K = -((-i).tmod K) := by rw [Int.neg_tmod]; omega
        rw [e, Int.tmod_eq_emod_of_nonneg (by omega)]
        have := Int.emod_nonneg (-i) (show (K : Int) ≠ 0 by omega)
        have := Int.emod_lt_of_pos (-i) hKp
        omega
    obtain ⟨a, ha⟩ : ∃ a, i.tmod (K : Int) = a := ⟨_, rfl⟩
    rw [ha] at m1 m2
    have m5 : 0 ≤ (a + K).tmod (K : Int) := Int.tmod_nonneg _ (by omega)
    have m4 : (a + K).tmod (K : Int) < K := by
      rw [Int.tmod_eq_emod_of_nonneg (by omega)]; exact Int.emod_lt_of_pos _ (by omega)
    obtain ⟨k, hkk⟩ : ∃ k : Nat, (a + K).tmod (K : Int) = (k : Int) := ⟨((a + K).tmod (K : Int)).toNat, by omega⟩
    have hkl : k < K := by omega
    obtain ⟨r1, r2, r3⟩ := M.rate_order o more k l (by omega) ho hsm
    have hx := hsm k
    have hxs : M.addT (l.getD k 0) more < 18446744073709551616 := by rw [M.addT_min]; omega
    have hos : M.addT o more < 18446744073709551616 := by rw [M.addT_min]; omega
    have HSM2 : Hid (∀ j, (l.set k (M.addT (l.getD k 0) more)).getD j 0 < 18446744073709551616) := Lib.hid (fun j => by
      rw [getD_setN l k _ j (by omega)]
      split
      · exact hxs
      · exact hsm j)
    have HL2 : Hid ((l.set k (M.addT (l.getD k 0) more)).length = K ∧ ∀ j, (l.set k (M.addT (l.getD k 0) more)).getD j 0 = if j = k then M.addT (l.getD k 0) more else l.getD j 0) := Lib.hid ⟨by rw [List.length_set, hK], fun j => getD_setN l k _ j (by omega)⟩
    have HAX := Lib.hid (fun W => fixAdd_any (l.getD k 0) more hx hmo W)
    have HAO := Lib.hid (fun W => fixAdd_any o more ho hmo W)
    have HR1 : Hid (∀ W, Below w.heap.size w W → Calls Tryz.prog 33 #[.int .u64 o, .slice (some ⟨b, q, none⟩) K cap] W fun e w' => e = .returned (.int .u64 (M.lossRate o l)) ∧ Below W.heap.size W w') := Lib.hid (fun W hb => by
      have h := rate_any o _ l ho W (hT.below hb) (hv.below hb)
      rw [hK] at h
      exact h.mono fun e w' ⟨h1, k, h2⟩ => ⟨h1, by rw [h2]; exact bel_drewN _ k⟩)
    have HR3 : Hid (∀ W, Below w.heap.size w W → Calls Tryz.prog 33 #[.int .u64 (M.addT o more), .slice (some ⟨b, q, none⟩) K cap] W fun e w' => e = .returned (.int .u64 (M.lossRate (M.addT o more) l)) ∧ Below W.heap.size W w') := Lib.hid (fun W hb => by
      have h := rate_any (M.addT o more) _ l hos W (hT.below hb) (hv.below hb)
      rw [hK] at h
      exact h.mono fun e w' ⟨h1, k, h2⟩ => ⟨h1, by rw [h2]; exact bel_drewN _ k⟩)
    have HR2 : Hid (∀ W v, Below w.heap.size w W → U64At W v (l.set k (M.addT (l.getD k 0) more)) → Calls Tryz.prog 33 #[.int .u64 o, v] W fun e w' => e = .returned (.int .u64 (M.lossRate o (l.set k (M.addT (l.getD k 0) more)))) ∧ Below W.heap.size W w') := Lib.hid (fun W v hb hv2 =>
      (rate_any o v _ ho W (hT.below hb) hv2).mono fun e w' ⟨h1, k, h2⟩ => ⟨h1, by rw [h2]; exact bel_drewN _ k⟩)
    generalize hl2 : l.set k (M.addT (l.getD k 0) more) = l2 at *
    generalize M.addT o more = o2 at *
    generalize M.lossRate o l2 = rb at *
    generalize M.lossRate o l = ra at *
    generalize M.lossRate o2 l = rc at *
    have q1 : decide ((rb : Int) ≤ (ra : Int)) = true := decide_eq_true (by omega)
    have q2 : decide ((rc : Int) ≤ (ra : Int)) = true := decide_eq_true (by omega)
    have HLZ := Lib.hid hl0
    rw [hK] at hmin hkc hkn hlp
    have hKz : ((K : Int) == 0) = false := by rw [beq_eq_false_iff_ne]; omega
    clear hT hk hv hl2 hl0 hve hcc hpe hsm
    go_enter Tryz.func12, Tryz.ntmps12
    go_upto_region 7 with (go_at_call 18; refine (HBG.out _ (by first | exact Below.refl _ _ | exact bel_alloc _ _ | exact bel_trans (bel_alloc _ _) (bel_alloc _ _))).mono ?_; rintro e w0 ⟨rfl, hb0⟩)
    have HB0 := Lib.hid hb0
    have HC0 := Lib.hid (HC.out w0 hb0)
    have HNIL := Lib.hid (U64Own.nil w0)
    clear hb0
    go_upto_region 8 with (at_builtin; refine wp_u64s rfl _ _ rfl w0.heap.size (.slice none 0 0) [] l rfl w0 w0 HNIL.out b q cap (by rw [HKK.out]; rfl) HC0.out (by simp) (by rw [HKK.out]; omega) ?_; intro v2 w9 ho9)
    have HO9 : Hid (U64Own w0.heap.size v2 l w0 w9) := Lib.hid ho9
    obtain ⟨g, c, rfl, hgc, hgm, hgB, hglt, hgcell, hgfr⟩ := HO9.out.shape (by rw [HKK.out]; omega)
    have HB9 : Hid (Below w.heap.size w w9) := Lib.hid (bel_trans HB0.out HO9.out.2.1)
    have HGB : Hid (w.heap.size ≤ g) := Lib.hid (Nat.le_trans HB0.out.size hgB)
    have ck := hgcell k (by rw [HKK.out]; omega)
    have fk := hgfr k
    have HCELL := Lib.hid hgcell
    rw [HKK.out] at hgc ⊢
    generalize l.getD k 0 = x at *
    clear ho9 hgcell hgfr HO9 HNIL HC0
    generalize M.addT x more = y at *
    go_upto_region 10 with (go_at_call 73; (with_reducible refine (HAX.out _).mono ?_); rintro e w3 ⟨rfl, rfl⟩)
    have hbA : Below w.heap.size w (w9.setCell ⟨g, k, none⟩ (.int .u64 y)) := HB9.out.setCell (p := ⟨g, k, none⟩) HGB.out _
    have hat : U64At (w9.setCell ⟨g, k, none⟩ (.int .u64 y)) (.slice (some ⟨g, 0, none⟩) K c) l2 := by
      obtain ⟨z1, z2⟩ := HL2.out
      refine ⟨⟨some ⟨g, 0, none⟩, c, by rw [z1], by omega, hgm, fun j hj => ⟨g, 0, rfl, by simpa using hglt, ?_⟩⟩, by omega, HSM2.out⟩
      rw [z2, Nat.zero_add]
      by_cases hjk : j = k
      · subst hjk
        rw [if_pos rfl]
        exact cell_set_same _ _ _ _ ck
      · rw [if_neg hjk, cell_set_off _ _ _ _ _ (fun e => hjk e)]
        exact HCELL.out j (by rw [HKK.out]; omega)
    have HBA := Lib.hid hbA; have HAT := Lib.hid hat
    clear hbA hat ck fk
    generalize w9.setCell ⟨g, k, none⟩ (.int .u64 y) = wa at *
    by_cases h8 : k < 8
    · have e8 : decide ((k : Int) < 8) = true := decide_eq_true (by omega)
      clear h8 r3
      go_wp2_with (first
        | (go_at_call 33; first
          | ((with_reducible refine (HR1.out _ HBA.out).mono ?_); rintro e wb ⟨rfl, hbb⟩; have HBB := Lib.hid (bel_trans HBA.out hbb); have HATB := Lib.hid (HAT.out.below hbb))
          | ((with_reducible refine (HR2.out _ _ HBB.out HATB.out).mono ?_); rintro e wc ⟨rfl, hbc⟩; have HBC := Lib.hid (bel_trans HBB.out hbc))
          | ((with_reducible refine (HR3.out _ HBC.out).mono ?_); rintro e wd ⟨rfl, hbd⟩))
        | (go_at_call 73; (with_reducible refine (HAO.out _).mono ?_); rintro e w3 ⟨rfl, rfl⟩))
      go_ret
      exact ⟨rfl, bel_trans HBC.out hbd⟩
    · have e8 : decide ((k : Int) < 8) = false := decide_eq_false (by omega)
      have hrr := r3 (by omega)
      subst hrr
      clear h8 r3
      go_wp2_with (first
        | (go_at_call 33; first
          | ((with_reducible refine (HR1.out _ HBA.out).mono ?_); rintro e wb ⟨rfl, hbb⟩; have HBB := Lib.hid (bel_trans HBA.out hbb); have HATB := Lib.hid (HAT.out.below hbb))
          | ((with_reducible refine (HR2.out _ _ HBB.out HATB.out).mono ?_); rintro e wc ⟨rfl, hbc⟩; have HBC := Lib.hid (bel_trans HBB.out hbc))
          | ((with_reducible refine (HR3.out _ HBC.out).mono ?_); rintro e wd ⟨rfl, hbd⟩))
        | (go_at_call 73; (with_reducible refine (HAO.out _).mono ?_); rintro e w3 ⟨rfl, rfl⟩))
      go_ret
      exact ⟨rfl, bel_trans HBC.out hbd⟩
end Go.Proofs.YtnffdacajdjeoaaGreatDoor
