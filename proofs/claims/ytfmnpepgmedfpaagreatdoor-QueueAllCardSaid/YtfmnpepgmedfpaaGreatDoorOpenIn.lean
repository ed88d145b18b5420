/-
  Rows of numbers, and of pairs of numbers, that came in as arguments, opened.
-/
import Derived.Test.YtfmnpepgmedfpaaGreatDoorIvW
import Derived.Test.YtfmnpepgmedfpaaGreatDoorVecW
import Derived.OpenShut
import Derived.ChangeSlices
import Derived.ChangeSame
import Derived.Deep.Slices
import Derived.Deep.SlicePairs
namespace Go.Proofs.YtfmnpepgmedfpaaGreatDoor
open Go.ChangeShapes Go.WideShapes Go.Deep Go.RowKit
set_option linter.unusedVariables false

theorem addr_plain {w : World} {a : Addr} {v : Value} (h : w.cell? (a.add 0) = some v) : ∃ b o, a = ⟨b, o, none⟩ ∧ b < w.heap.size := by
  have e : a.add 0 = a := by unfold Addr.add; split <;> simp_all
  rw [e] at h
  have hs : a.spot = none := by
    unfold World.cell? at h
    split at h
    · cases hsp : a.spot with
      | none => rfl
      | some x => rw [hsp] at h; simp at h
    · cases h
  have hb := World.block_lt_of_cell? w a h
  obtain ⟨b, o, sp⟩ := a
  simp only at hs
  subst hs
  exact ⟨b, o, rfl, hb⟩
theorem add_plain (b o k : Nat) : (⟨b, o, none⟩ : Addr).add k = ⟨b, o + k, none⟩ := by unfold Addr.add; split <;> simp_all

theorem open_row {H : Type} {enc : TypeId × Value → H} {W : World} {t e : TypeId} {k : IntKind} {p : Option Addr} {n c : Nat} {d : DataW H} {q : List MemPlace}
    (ht : Tryz.prog.underlying t = some (.slice e)) (he : Tryz.prog.underlying e = some (.int k)) (hc : Tryz.prog.cellsOf e = 1)
    (h : DataW.Trod enc Tryz.prog W 0 (fun _ => true) true t (.slice p n c) d q) :
    n ≤ c ∧ c ≤ 9223372036854775807 ∧ ∃ zs : List Int, n ≤ zs.length ∧ (∀ z ∈ zs, (Lit.int k z).wf = true) ∧ ∀ i, i < n → ∃ b o, p = some ⟨b, o, none⟩ ∧ b < W.heap.size ∧ W.cell? ⟨b, o + i, none⟩ = some (.int k (zs.getD i 0)) := by
  obtain ⟨fuel, hf⟩ := h
  rcases open_ints ht he hc hf with ⟨hcs, hx⟩ | ⟨a, len', cap', zs, hcs, _, hl, hm, hz, hx, hcell, hwz⟩
  · simp [Value.cells] at hcs
    obtain ⟨rfl, rfl, rfl⟩ := hcs
    exact ⟨by omega, by omega, [], by simp, by simp, fun i hi => absurd hi (Nat.not_lt_zero i)⟩
  · simp [Value.cells] at hcs
    obtain ⟨rfl, rfl, rfl⟩ := hcs
    simp only [if_true] at hz
    have hm' : c ≤ 9223372036854775807 := hm
    refine ⟨hl, hm', zs, by omega, hwz, fun i hi => ?_⟩
    obtain ⟨b, o, rfl, hb⟩ := addr_plain (hcell 0 (by omega))
    have h1 := hcell i (by omega)
    rw [add_plain] at h1
    exact ⟨b, o, rfl, hb, h1⟩

theorem getD_take_lt {α : Type} (l : List α) (d : α) (m i : Nat) (h : i < m) : (l.take m).getD i d = l.getD i d := by
  rw [List.getD_eq_getElem?_getD, List.getD_eq_getElem?_getD, List.getElem?_take, if_pos h]
theorem getD_prop {α : Type} {P : α → Prop} {l : List α} {d : α} (h : ∀ z ∈ l, P z) (hd : P d) (i : Nat) : P (l.getD i d) := by
  rw [List.getD_eq_getElem?_getD]
  by_cases hi : i < l.length
  · rw [List.getElem?_eq_getElem hi]; exact h _ (List.getElem_mem _)
  · rw [List.getElem?_eq_none (by omega)]; exact hd

/-- Its first m numbers, signed. -/
theorem open_i64s {H : Type} {enc : TypeId × Value → H} {W : World} {t e : TypeId} {p : Option Addr} {n c : Nat} {d : DataW H} {q : List MemPlace} (m : Nat) (hm : m ≤ 1073741824)
    (ht : Tryz.prog.underlying t = some (.slice e)) (he : Tryz.prog.underlying e = some (.int .i64)) (hc : Tryz.prog.cellsOf e = 1)
    (h : DataW.Trod enc Tryz.prog W 0 (fun _ => true) true t (.slice p n c) d q) :
    n ≤ c ∧ c ≤ 9223372036854775807 ∧ ∃ l : List Int, l.length = min n m ∧ I64At W (.slice p l.length c) l := by
  obtain ⟨h1, h2, zs, h3, h4, h5⟩ := open_row ht he hc h
  have hl : (zs.take (min n m)).length = min n m := by rw [List.length_take]; omega
  refine ⟨h1, h2, zs.take (min n m), hl, ⟨p, c, rfl, by omega, h2, fun i hi => ?_⟩, by omega, fun i => ?_⟩
  · rw [getD_take_lt _ _ _ _ (by omega)]
    exact h5 i (by omega)
  · exact getD_prop (P := fun z => -9223372036854775808 ≤ z ∧ z ≤ 9223372036854775807) (fun z hz => bounds_i64 (h4 z (List.mem_of_mem_take hz))) (by decide) i
/-- All its numbers, signed. -/
theorem open_i64w {H : Type} {enc : TypeId × Value → H} {W : World} {t e : TypeId} {p : Option Addr} {n c : Nat} {d : DataW H} {q : List MemPlace}
    (ht : Tryz.prog.underlying t = some (.slice e)) (he : Tryz.prog.underlying e = some (.int .i64)) (hc : Tryz.prog.cellsOf e = 1)
    (h : DataW.Trod enc Tryz.prog W 0 (fun _ => true) true t (.slice p n c) d q) :
    n ≤ c ∧ c ≤ 9223372036854775807 ∧ ∃ l : List Int, l.length = n ∧ ∀ i, i < l.length → ∃ b o, p = some ⟨b, o, none⟩ ∧ b < W.heap.size ∧ W.cell? ⟨b, o + i, none⟩ = some (.int .i64 (l.getD i 0)) := by
  obtain ⟨h1, h2, zs, h3, h4, h5⟩ := open_row ht he hc h
  have hl : (zs.take n).length = n := by rw [List.length_take]; omega
  refine ⟨h1, h2, zs.take n, hl, fun i hi => ?_⟩
  rw [getD_take_lt _ _ _ _ (by omega)]
  exact h5 i (by omega)
/-- Its first m numbers, without a sign. -/
theorem open_u64s {H : Type} {enc : TypeId × Value → H} {W : World} {t e : TypeId} {p : Option Addr} {n c : Nat} {d : DataW H} {q : List MemPlace} (m : Nat) (hm : m ≤ 1073741824)
    (ht : Tryz.prog.underlying t = some (.slice e)) (he : Tryz.prog.underlying e = some (.int .u64)) (hc : Tryz.prog.cellsOf e = 1)
    (h : DataW.Trod enc Tryz.prog W 0 (fun _ => true) true t (.slice p n c) d q) :
    n ≤ c ∧ c ≤ 9223372036854775807 ∧ ∃ l : List Nat, l.length = min n m ∧ U64At W (.slice p l.length c) l := by
  obtain ⟨h1, h2, zs, h3, h4, h5⟩ := open_row ht he hc h
  have hb : ∀ i, 0 ≤ zs.getD i 0 ∧ zs.getD i 0 ≤ 18446744073709551615 := fun i => getD_prop (P := fun z => 0 ≤ z ∧ z ≤ 18446744073709551615) (fun z hz => bounds_u64 (h4 z hz)) (by decide) i
  have hl : ((zs.take (min n m)).map Int.toNat).length = min n m := by rw [List.length_map, List.length_take]; omega
  have hg : ∀ i, i < min n m → ((((zs.take (min n m)).map Int.toNat).getD i 0 : Nat) : Int) = zs.getD i 0 := fun i hi => by
    have h6 := hb i
    rw [List.getD_eq_getElem?_getD] at h6
    rw [List.getD_eq_getElem?_getD, List.getD_eq_getElem?_getD, List.getElem?_map, List.getElem?_take, if_pos hi]
    have hz : i < zs.length := by omega
    rw [List.getElem?_eq_getElem hz] at h6 ⊢
    simp only [Option.getD_some, Option.map_some] at h6 ⊢
    omega
  refine ⟨h1, h2, (zs.take (min n m)).map Int.toNat, hl, ⟨p, c, rfl, by omega, h2, fun i hi => ?_⟩, by omega, fun i => ?_⟩
  · rw [hg i (by omega)]
    exact h5 i (by omega)
  · by_cases hi : i < min n m
    · have h6 := hb i
      have h7 := hg i hi
      omega
    · rw [List.getD_eq_getElem?_getD, List.getElem?_eq_none (by omega)]
      decide

/-- A row of pairs of numbers, whole. -/
theorem open_pairs {H : Type} {enc : TypeId × Value → H} {W : World} {t e : TypeId} {f0 f1 : Field} {p : Option Addr} {n c : Nat} {d : DataW H} {q : List MemPlace}
    (ht : Tryz.prog.underlying t = some (.slice e)) (he : Tryz.prog.underlying e = some (.struct #[f0, f1])) (ce : Tryz.prog.cellsOf e = 2) (o0 : f0.offset = 0) (o1 : f1.offset = 1) (c0 : Tryz.prog.cellsOf f0.type = 1) (c1 : Tryz.prog.cellsOf f1.type = 1)
    (u0 : Tryz.prog.underlying f0.type = some (.int .i64)) (u1 : Tryz.prog.underlying f1.type = some (.int .i64))
    (h : DataW.Trod enc Tryz.prog W 0 (fun _ => true) true t (.slice p n c) d q) :
    n ≤ c ∧ c ≤ 9223372036854775807 ∧ ∃ l : List Cel, l.length = n ∧ (∀ x ∈ l, -9223372036854775808 ≤ x.2 ∧ x.2 ≤ 9223372036854775807) ∧
      ∀ i, i < l.length → ∃ b o, p = some ⟨b, o, none⟩ ∧ b < W.heap.size ∧ W.cell? ⟨b, o + i * 2, none⟩ = some (.int .i64 (l.getD i (0, 0)).1) ∧ W.cell? ⟨b, o + i * 2 + 1, none⟩ = some (.int .i64 (l.getD i (0, 0)).2) := by
  obtain ⟨fuel, hf⟩ := h
  rcases open_slice_pairs ht he ce o0 o1 c0 c1 hf with ⟨hcs, hx⟩ | ⟨a, len, cap, m, n', V0, V1, D0, D1, P0, P1, hcs, _, hl, hm, hmm, hx, hi⟩
  · simp [Value.cells] at hcs
    obtain ⟨rfl, rfl, rfl⟩ := hcs
    exact ⟨by omega, by omega, [], rfl, by simp, fun i hi => absurd hi (Nat.not_lt_zero i)⟩
  · simp [Value.cells] at hcs
    obtain ⟨rfl, rfl, rfl⟩ := hcs
    have hm' : c ≤ 9223372036854775807 := hm
    simp only [if_true] at hmm
    have key : ∀ i, i < n → ∃ x : Cel, V0 i = .int .i64 x.1 ∧ V1 i = .int .i64 x.2 ∧ (-9223372036854775808 ≤ x.2 ∧ x.2 ≤ 9223372036854775807) := by
      intro i hin
      obtain ⟨_, _, k0, k1⟩ := hi i (by omega)
      obtain ⟨z0, hz0, _, _⟩ := DataW.trod_int u0 k0
      obtain ⟨z1, hz1, _, hw1⟩ := DataW.trod_int u1 k1
      simp at hz0 hz1
      exact ⟨(z0, z1), hz0, hz1, bounds_i64 hw1⟩
    have hlist : ∀ m', m' ≤ n → ∃ l : List Cel, l.length = m' ∧ (∀ x ∈ l, -9223372036854775808 ≤ x.2 ∧ x.2 ≤ 9223372036854775807) ∧ ∀ i, i < m' → V0 i = .int .i64 (l.getD i (0, 0)).1 ∧ V1 i = .int .i64 (l.getD i (0, 0)).2 := by
      intro m'
      induction m' with
      | zero => exact fun _ => ⟨[], rfl, by simp, fun i hi => absurd hi (Nat.not_lt_zero i)⟩
      | succ m' ih =>
        intro hmn
        obtain ⟨l, hl1, hl2, hl3⟩ := ih (by omega)
        obtain ⟨x, hx0, hx1, hx2⟩ := key m' (by omega)
        refine ⟨l ++ [x], by simp [hl1], fun y hy => ?_, fun i hi' => ?_⟩
        · rcases List.mem_append.1 hy with h8 | h8
          · exact hl2 y h8
          · rw [List.mem_singleton.1 h8]; exact hx2
        · by_cases e' : i < m'
          · have h9 := hl3 i e'
            rw [List.getD_eq_getElem?_getD] at h9 ⊢
            rwa [List.getElem?_append_left (by omega)]
          · obtain rfl : i = m' := by omega
            rw [List.getD_eq_getElem?_getD, List.getElem?_append_right (by omega), hl1]
            simpa using ⟨hx0, hx1⟩
    obtain ⟨l, hl1, hl2, hl3⟩ := hlist n (Nat.le_refl _)
    refine ⟨hl, hm', l, hl1, hl2, fun i hi' => ?_⟩
    have h0 := (hi 0 (by omega)).1
    rw [Nat.zero_mul] at h0
    obtain ⟨b, o, rfl, hb⟩ := addr_plain h0
    obtain ⟨h6, h7, _, _⟩ := hi i (by omega)
    obtain ⟨h8, h9⟩ := hl3 i (by omega)
    rw [add_plain] at h6 h7
    rw [h8] at h6
    rw [h9] at h7
    exact ⟨b, o, rfl, hb, h6, h7⟩
end Go.Proofs.YtfmnpepgmedfpaaGreatDoor
