/-
  What the laid table of the weights says.
  Rows of numbers, and of pairs of numbers, that came in as arguments, opened.
  The law FeedRound, walked.
-/
import Derived.Test.YtbiglbclifbmhaaGreatDoorIvalA
import Derived.Test.YtbiglbclifbmhaaGreatDoorRows
import Derived.Lib.LaidU8
import Derived.Lib.LaidTab
import Derived.MakeChecks
import Derived.OpenShut
import Derived.Test.YtbiglbclifbmhaaGreatDoorIntR
import Derived.Test.YtbiglbclifbmhaaGreatDoorVecB
import Derived.ChangeSlices
import Derived.ChangeSame
import Derived.Deep.Slices
import Derived.Deep.SlicePairs
import Derived.Test.YtbiglbclifbmhaaGreatDoorLfFe
import Derived.Test.YtbiglbclifbmhaaGreatDoorBegun8
namespace Go.Proofs.YtbiglbclifbmhaaGreatDoor
open Go.ChangeShapes Go.WideShapes Go.ChangeAt Go.RowKit
set_option linter.unusedVariables false
set_option linter.unusedSimpArgs false

theorem tabW_laid {W : World} {l : List (String × DataW Unit)} (h : laidMet Tryz.prog l W) (hm : ("muleteer/ival.weights", (Rows.laid_muleteer_ival_weights : DataW Unit)) ∈ l) : TabW W := by
  obtain ⟨ps, h, _⟩ := h
  obtain ⟨g, t, cs, fuel, p, hg, ht, hvar, hd⟩ := Lib.LaidVars_reads h _ _ hm
  rw [show (Rows.laid_muleteer_ival_weights : DataW Unit) = Lib.tabData .u64 [5, 5, 5, 5, 4, 3, 2, 1] by kernel_rfl] at hd
  have e : Tryz.prog.globalNamed "muleteer/ival.weights" = some 2 := by kernel_rfl
  obtain rfl := Option.some.inj (e.symm.trans hg)
  obtain rfl : t = 201 := (Option.some.inj ((show (Tryz.prog.globals[2]?).map (·.type) = some 201 by kernel_rfl).symm.trans ht)).symm
  have hc := Lib.cells_of_tab Tryz.underlying201 Tryz.underlying22 (by kernel_rfl) (by kernel_rfl) hd
  obtain ⟨cl⟩ := cs
  simp only at hc
  subst hc
  intro i hi
  have h1 := World.var?_cell e hvar i
  rw [h1]
  obtain rfl | rfl | rfl | rfl | rfl | rfl | rfl | rfl : i = 0 ∨ i = 1 ∨ i = 2 ∨ i = 3 ∨ i = 4 ∨ i = 5 ∨ i = 6 ∨ i = 7 := by omega
  all_goals rfl
end Go.Proofs.YtbiglbclifbmhaaGreatDoor

namespace Go.Proofs.YtbiglbclifbmhaaGreatDoor
open Go.ChangeShapes Go.WideShapes Go.Deep Go.RowKit
set_option linter.unusedVariables false

theorem addr_plain {w : World} {a : Addr} {v : Value} (h : w.cell? (a.add 0) = some v) : ∃ b o, a = ⟨b, o, none⟩ ∧ b < w.heap.size := by
  have e : a.add 0 = a := by unfold Addr.add; split <;> simp_all
  rw [e] at h
  have hs : a.spot = none := by
    unfold World.cell? at h
    split at h
    · cases hsp : a.spot with
      | none => rfl
      | some x => rw [hsp] at h; simp at h
    · cases h
  have hb := World.block_lt_of_cell? w a h
  obtain ⟨b, o, sp⟩ := a
  simp only at hs
  subst hs
  exact ⟨b, o, rfl, hb⟩
theorem add_plain (b o k : Nat) : (⟨b, o, none⟩ : Addr).add k = ⟨b, o + k, none⟩ := by unfold Addr.add; split <;> simp_all

theorem open_row {H : Type} {enc : TypeId × Value → H} {W : World} {t e : TypeId} {k : IntKind} {p : Option Addr} {n c : Nat} {d : DataW H} {q : List MemPlace}
    (ht : Tryz.prog.underlying t = some (.slice e)) (he : Tryz.prog.underlying e = some (.int k)) (hc : Tryz.prog.cellsOf e = 1)
    (h : DataW.Trod enc Tryz.prog W 0 (fun _ => true) true t (.slice p n c) d q) :
    n ≤ c ∧ c ≤ 9223372036854775807 ∧ ∃ zs : List Int, n ≤ zs.length ∧ (∀ z ∈ zs, (Lit.int k z).wf = true) ∧ ∀ i, i < n → ∃ b o, p = some ⟨b, o, none⟩ ∧ b < W.heap.size ∧ W.cell? ⟨b, o + i, none⟩ = some (.int k (zs.getD i 0)) := by
  obtain ⟨fuel, hf⟩ := h
  rcases open_ints ht he hc hf with ⟨hcs, hx⟩ | ⟨a, len', cap', zs, hcs, _, hl, hm, hz, hx, hcell, hwz⟩
  · simp [Value.cells] at hcs
    obtain ⟨rfl, rfl, rfl⟩ := hcs
    exact ⟨by omega, by omega, [], by simp, by simp, fun i hi => absurd hi (Nat.not_lt_zero i)⟩
  · simp [Value.cells] at hcs
    obtain ⟨rfl, rfl, rfl⟩ := hcs
    simp only [if_true] at hz
    have hm' : c ≤ 9223372036854775807 := hm
    refine ⟨hl, hm', zs, by omega, hwz, fun i hi => ?_⟩
    obtain ⟨b, o, rfl, hb⟩ := addr_plain (hcell 0 (by omega))
    have h1 := hcell i (by omega)
    rw [add_plain] at h1
    exact ⟨b, o, rfl, hb, h1⟩

theorem getD_take_lt {α : Type} (l : List α) (d : α) (m i : Nat) (h : i < m) : (l.take m).getD i d = l.getD i d := by
  rw [List.getD_eq_getElem?_getD, List.getD_eq_getElem?_getD, List.getElem?_take, if_pos h]
theorem getD_prop {α : Type} {P : α → Prop} {l : List α} {d : α} (h : ∀ z ∈ l, P z) (hd : P d) (i : Nat) : P (l.getD i d) := by
  rw [List.getD_eq_getElem?_getD]
  by_cases hi : i < l.length
  · rw [List.getElem?_eq_getElem hi]; exact h _ (List.getElem_mem _)
  · rw [List.getElem?_eq_none (by omega)]; exact hd

/-- Its first m numbers, signed. -/
theorem open_i64s {H : Type} {enc : TypeId × Value → H} {W : World} {t e : TypeId} {p : Option Addr} {n c : Nat} {d : DataW H} {q : List MemPlace} (m : Nat) (hm : m ≤ 1073741824)
    (ht : Tryz.prog.underlying t = some (.slice e)) (he : Tryz.prog.underlying e = some (.int .i64)) (hc : Tryz.prog.cellsOf e = 1)
    (h : DataW.Trod enc Tryz.prog W 0 (fun _ => true) true t (.slice p n c) d q) :
    n ≤ c ∧ c ≤ 9223372036854775807 ∧ ∃ l : List Int, l.length = min n m ∧ I64At W (.slice p l.length c) l := by
  obtain ⟨h1, h2, zs, h3, h4, h5⟩ := open_row ht he hc h
  have hl : (zs.take (min n m)).length = min n m := by rw [List.length_take]; omega
  refine ⟨h1, h2, zs.take (min n m), hl, ⟨p, c, rfl, by omega, h2, fun i hi => ?_⟩, by omega, fun i => ?_⟩
  · rw [getD_take_lt _ _ _ _ (by omega)]
    exact h5 i (by omega)
  · exact getD_prop (P := fun z => -9223372036854775808 ≤ z ∧ z ≤ 9223372036854775807) (fun z hz => bounds_i64 (h4 z (List.mem_of_mem_take hz))) (by decide) i
/-- All its numbers, signed. -/
theorem open_i64w {H : Type} {enc : TypeId × Value → H} {W : World} {t e : TypeId} {p : Option Addr} {n c : Nat} {d : DataW H} {q : List MemPlace}
    (ht : Tryz.prog.underlying t = some (.slice e)) (he : Tryz.prog.underlying e = some (.int .i64)) (hc : Tryz.prog.cellsOf e = 1)
    (h : DataW.Trod enc Tryz.prog W 0 (fun _ => true) true t (.slice p n c) d q) :
    n ≤ c ∧ c ≤ 9223372036854775807 ∧ ∃ l : List Int, l.length = n ∧ ∀ i, i < l.length → ∃ b o, p = some ⟨b, o, none⟩ ∧ b < W.heap.size ∧ W.cell? ⟨b, o + i, none⟩ = some (.int .i64 (l.getD i 0)) := by
  obtain ⟨h1, h2, zs, h3, h4, h5⟩ := open_row ht he hc h
  have hl : (zs.take n).length = n := by rw [List.length_take]; omega
  refine ⟨h1, h2, zs.take n, hl, fun i hi => ?_⟩
  rw [getD_take_lt _ _ _ _ (by omega)]
  exact h5 i (by omega)
/-- Its first m numbers, without a sign. -/
theorem open_u64s {H : Type} {enc : TypeId × Value → H} {W : World} {t e : TypeId} {p : Option Addr} {n c : Nat} {d : DataW H} {q : List MemPlace} (m : Nat) (hm : m ≤ 1073741824)
    (ht : Tryz.prog.underlying t = some (.slice e)) (he : Tryz.prog.underlying e = some (.int .u64)) (hc : Tryz.prog.cellsOf e = 1)
    (h : DataW.Trod enc Tryz.prog W 0 (fun _ => true) true t (.slice p n c) d q) :
    n ≤ c ∧ c ≤ 9223372036854775807 ∧ ∃ l : List Nat, l.length = min n m ∧ U64At W (.slice p l.length c) l := by
  obtain ⟨h1, h2, zs, h3, h4, h5⟩ := open_row ht he hc h
  have hb : ∀ i, 0 ≤ zs.getD i 0 ∧ zs.getD i 0 ≤ 18446744073709551615 := fun i => getD_prop (P := fun z => 0 ≤ z ∧ z ≤ 18446744073709551615) (fun z hz => bounds_u64 (h4 z hz)) (by decide) i
  have hl : ((zs.take (min n m)).map Int.toNat).length = min n m := by rw [List.length_map, List.length_take]; omega
  have hg : ∀ i, i < min n m → ((((zs.take (min n m)).map Int.toNat).getD i 0 : Nat) : Int) = zs.getD i 0 := fun i hi => by
    have h6 := hb i
    rw [List.getD_eq_getElem?_getD] at h6
    rw [List.getD_eq_getElem?_getD, List.getD_eq_getElem?_getD, List.getElem?_map, List.getElem?_take, if_pos hi]
    have hz : i < zs.length := by omega
    rw [List.getElem?_eq_getElem hz] at h6 ⊢
    simp only [Option.getD_some, Option.map_some] at h6 ⊢
    omega
  refine ⟨h1, h2, (zs.take (min n m)).map Int.toNat, hl, ⟨p, c, rfl, by omega, h2, fun i hi => ?_⟩, by omega, fun i => ?_⟩
  · rw [hg i (by omega)]
    exact h5 i (by omega)
  · by_cases hi : i < min n m
    · have h6 := hb i
      have h7 := hg i hi
      omega
    · rw [List.getD_eq_getElem?_getD, List.getElem?_eq_none (by omega)]
      decide

/-- A row of pairs of numbers, whole. -/
theorem open_pairs {H : Type} {enc : TypeId × Value → H} {W : World} {t e : TypeId} {f0 f1 : Field} {p : Option Addr} {n c : Nat} {d : DataW H} {q : List MemPlace}
    (ht : Tryz.prog.underlying t = some (.slice e)) (he : Tryz.prog.underlying e = some (.struct #[f0, f1])) (ce : Tryz.prog.cellsOf e = 2) (o0 : f0.offset = 0) (o1 : f1.offset = 1) (c0 : Tryz.prog.cellsOf f0.type = 1) (c1 : Tryz.prog.cellsOf f1.type = 1)
    (u0 : Tryz.prog.underlying f0.type = some (.int .i64)) (u1 : Tryz.prog.underlying f1.type = some (.int .i64))
    (h : DataW.Trod enc Tryz.prog W 0 (fun _ => true) true t (.slice p n c) d q) :
    n ≤ c ∧ c ≤ 9223372036854775807 ∧ ∃ l : List Cel, l.length = n ∧ (∀ x ∈ l, -9223372036854775808 ≤ x.2 ∧ x.2 ≤ 9223372036854775807) ∧
      ∀ i, i < l.length → ∃ b o, p = some ⟨b, o, none⟩ ∧ b < W.heap.size ∧ W.cell? ⟨b, o + i * 2, none⟩ = some (.int .i64 (l.getD i (0, 0)).1) ∧ W.cell? ⟨b, o + i * 2 + 1, none⟩ = some (.int .i64 (l.getD i (0, 0)).2) := by
  obtain ⟨fuel, hf⟩ := h
  rcases open_slice_pairs ht he ce o0 o1 c0 c1 hf with ⟨hcs, hx⟩ | ⟨a, len, cap, m, n', V0, V1, D0, D1, P0, P1, hcs, _, hl, hm, hmm, hx, hi⟩
  · simp [Value.cells] at hcs
    obtain ⟨rfl, rfl, rfl⟩ := hcs
    exact ⟨by omega, by omega, [], rfl, by simp, fun i hi => absurd hi (Nat.not_lt_zero i)⟩
  · simp [Value.cells] at hcs
    obtain ⟨rfl, rfl, rfl⟩ := hcs
    have hm' : c ≤ 9223372036854775807 := hm
    simp only [if_true] at hmm
    have key : ∀ i, i < n → ∃ x : Cel, V0 i = .int .i64 x.1 ∧ V1 i = .int .i64 x.2 ∧ (-9223372036854775808 ≤ x.2 ∧ x.2 ≤ 9223372036854775807) := by
      intro i hin
      obtain ⟨_, _, k0, k1⟩ := hi i (by omega)
      obtain ⟨z0, hz0, _, _⟩ := DataW.trod_int u0 k0
      obtain ⟨z1, hz1, _, hw1⟩ := DataW.trod_int u1 k1
      simp at hz0 hz1
      exact ⟨(z0, z1), hz0, hz1, bounds_i64 hw1⟩
    have hlist : ∀ m', m' ≤ n → ∃ l : List Cel, l.length = m' ∧ (∀ x ∈ l, -9223372036854775808 ≤ x.2 ∧ x.2 ≤ 9223372036854775807) ∧ ∀ i, i < m' → V0 i = .int .i64 (l.getD i (0, 0)).1 ∧ V1 i = .int .i64 (l.getD i (0, 0)).2 := by
      intro m'
      induction m' with
      | zero => exact fun _ => ⟨[], rfl, by simp, fun i hi => absurd hi (Nat.not_lt_zero i)⟩
      | succ m' ih =>
        intro hmn
        obtain ⟨l, hl1, hl2, hl3⟩ := ih (by omega)
        obtain ⟨x, hx0, hx1, hx2⟩ := key m' (by omega)
        refine ⟨l ++ [x], by simp [hl1], fun y hy => ?_, fun i hi' => ?_⟩
        · rcases List.mem_append.1 hy with h8 | h8
          · exact hl2 y h8
          · rw [List.mem_singleton.1 h8]; exact hx2
        · by_cases e' : i < m'
          · have h9 := hl3 i e'
            rw [List.getD_eq_getElem?_getD] at h9 ⊢
            rwa [List.getElem?_append_left (by omega)]
          · obtain rfl : i = m' := by omega
            rw [List.getD_eq_getElem?_getD, List.getElem?_append_right (by omega), hl1]
            simpa using ⟨hx0, hx1⟩
    obtain ⟨l, hl1, hl2, hl3⟩ := hlist n (Nat.le_refl _)
    refine ⟨hl, hm', l, hl1, hl2, fun i hi' => ?_⟩
    have h0 := (hi 0 (by omega)).1
    rw [Nat.zero_mul] at h0
    obtain ⟨b, o, rfl, hb⟩ := addr_plain h0
    obtain ⟨h6, h7, _, _⟩ := hi i (by omega)
    obtain ⟨h8, h9⟩ := hl3 i (by omega)
    rw [add_plain] at h6 h7
    rw [h8] at h6
    rw [h9] at h7
    exact ⟨b, o, rfl, hb, h6, h7⟩
end Go.Proofs.YtbiglbclifbmhaaGreatDoor

namespace Go.Proofs.YtbiglbclifbmhaaGreatDoor
open Go.ChangeShapes Go.WideShapes Go.ChangeAt Go.RowKit Go.Deep
set_option linter.unusedVariables false
set_option linter.unusedSimpArgs false

/-- The operation i of a row that came in. -/
def FeOp (p : Option Addr) (i : Nat) (W : World) : Prop := ∃ (b o : Nat) (z0 z1 : Int) (nn : Nat) (z3 : Int), p = some ⟨b, o, none⟩ ∧ b < W.heap.size ∧ W.cell? ⟨b, o + i * 4, none⟩ = some (.int .i64 z0) ∧ W.cell? ⟨b, o + i * 4 + 1, none⟩ = some (.int .i64 z1) ∧ W.cell? ⟨b, o + i * 4 + 2, none⟩ = some (.int .u64 nn) ∧ W.cell? ⟨b, o + i * 4 + 3, none⟩ = some (.int .i64 z3) ∧
  (-9223372036854775808 ≤ z1 ∧ z1 ≤ 9223372036854775807) ∧ nn < 18446744073709551616 ∧ (-9223372036854775808 ≤ z3 ∧ z3 ≤ 9223372036854775807)
set_option maxRecDepth 100000 in
theorem open_feops {H : Type} {enc : TypeId × Value → H} {W : World} {p : Option Addr} {n c : Nat} {d : DataW H} {q : List MemPlace}
    (h : DataW.Trod enc Tryz.prog W 0 (fun _ => true) true 33 (.slice p n c) d q) : n ≤ c ∧ c ≤ 9223372036854775807 ∧ ∀ i, i < n → FeOp p i W := by
  obtain ⟨fuel, hf⟩ := h
  rcases open_slice Tryz.underlying33 hf with ⟨hcs, hx⟩ | ⟨a, len, cap, m, n', D, Pl, hcs, hb, hl, hm, hmm, hx, hi⟩
  · simp [Value.cells] at hcs
    obtain ⟨rfl, rfl, rfl⟩ := hcs
    exact ⟨by omega, by omega, fun i hi => absurd hi (Nat.not_lt_zero i)⟩
  · simp [Value.cells] at hcs
    obtain ⟨rfl, rfl, rfl⟩ := hcs
    have hm' : c ≤ 9223372036854775807 := hm
    simp only [if_true] at hmm
    have hC : Tryz.prog.cellsOf 35 = 4 := by kernel_rfl
    rw [hC] at hi
    refine ⟨hl, hm', fun i hin => ?_⟩
    obtain ⟨cs', hc, ht'⟩ := hi i (by omega)
    obtain ⟨_, hcl, hat⟩ := World.cells?_some hc
    obtain ⟨ys, n2, hn2, hy, hlen, hyl, hff⟩ := DataW.trod_struct Tryz.underlying35 ht'
    match cs', hcl with
    | [x0, x1, x2, x3], _ =>
      have e0 : ys[0]? = some (ys[0]'(by rw [hyl]; decide)) := List.getElem?_eq_getElem _
      have e1 : ys[1]? = some (ys[1]'(by rw [hyl]; decide)) := List.getElem?_eq_getElem _
      have e2 : ys[2]? = some (ys[2]'(by rw [hyl]; decide)) := List.getElem?_eq_getElem _
      have e3 : ys[3]? = some (ys[3]'(by rw [hyl]; decide)) := List.getElem?_eq_getElem _
      have h0 := hff 0 _ rfl
      have h1 := hff 1 _ rfl
      have h2 := hff 2 _ rfl
      have h3 := hff 3 _ rfl
      rw [e0] at h0
      rw [e1] at h1
      rw [e2] at h2
      rw [e3] at h3
      have k0 : DataW.trod enc Tryz.prog W 0 (fun _ => true) true n2 3 [x0] = some (ys[0]'(by rw [hyl]; decide)) := h0
      have k1 : DataW.trod enc Tryz.prog W 0 (fun _ => true) true n2 3 [x1] = some (ys[1]'(by rw [hyl]; decide)) := h1
      have k2 : DataW.trod enc Tryz.prog W 0 (fun _ => true) true n2 22 [x2] = some (ys[2]'(by rw [hyl]; decide)) := h2
      have k3 : DataW.trod enc Tryz.prog W 0 (fun _ => true) true n2 2 [x3] = some (ys[3]'(by rw [hyl]; decide)) := h3
      obtain ⟨z0, hz0, _, w0⟩ := DataW.trod_int Tryz.underlying3 k0
      obtain ⟨z1, hz1, _, w1⟩ := DataW.trod_int Tryz.underlying3 k1
      obtain ⟨z2, hz2, _, w2⟩ := DataW.trod_int Tryz.underlying22 k2
      obtain ⟨z3, hz3, _, w3⟩ := DataW.trod_int Tryz.underlying2 k3
      simp at hz0 hz1 hz2 hz3
      subst hz0 hz1 hz2 hz3
      have b1 := bounds_i64 w1
      have b2 := bounds_u64 w2
      have b3 := bounds_i64 w3
      obtain ⟨nn, rfl⟩ := Int.eq_ofNat_of_zero_le b2.1
      have c0 := hat 0 (by decide)
      have c1 := hat 1 (by decide)
      have c2 := hat 2 (by decide)
      have c3 := hat 3 (by decide)
      obtain ⟨cs0, hc0, _⟩ := hi 0 (by omega)
      obtain ⟨_, hcl0, hat0⟩ := World.cells?_some hc0
      have g0 := hat0 0 (by decide)
      rw [List.getElem?_eq_getElem (by omega), Nat.zero_mul] at g0
      have ea : a.add 0 = a := by unfold Addr.add; simp
      rw [ea] at g0
      obtain ⟨b, o, rfl, _⟩ := addr_plain g0
      rw [add_plain, add_plain] at c0 c1 c2 c3
      exact ⟨b, o, z0, z1, nn, z3, rfl, World.block_lt_of_cell? W _ c0, c0, c1, c2, c3, b1, by omega, b3⟩
/-- Two receivers that were put the same numbers, told from another one on. -/
def FePair (d Ca Cb k B : Nat) (w W : World) : Prop := ∃ (x y : FeS) (ba bb : Nat), Sh d x y ∧ x.Inv k ∧ y.Inv k ∧ FeedAt x Ca ba W ∧ FeedAt y Cb bb W ∧ (Ca ≠ Cb ∧ ba ≠ Cb ∧ bb ≠ Ca ∧ ba ≠ bb) ∧ (B ≤ Ca ∧ B ≤ Cb ∧ B ≤ ba ∧ B ≤ bb) ∧ Below B w W
/-- Between the two Puts. -/
def FeMid (d Ca Cb k B : Nat) (w : World) (T : Int) (n : Nat) (Z : Int) (r : Bool) (W : World) : Prop := ∃ (x' y : FeS) (ba bb : Nat), (∀ N sz, max y.s.now (min T 4611686018427387904) = N → min (max Z 0) 65535 = ((sz : Nat) : Int) → (y.put N (shN d n) sz).1 = r ∧ Sh d x' (y.put N (shN d n) sz).2) ∧ x'.Inv (k + 1) ∧ y.Inv k ∧ FeedAt x' Ca ba W ∧ FeedAt y Cb bb W ∧ (Ca ≠ Cb ∧ ba ≠ Cb ∧ bb ≠ Ca ∧ ba ≠ bb) ∧ (B ≤ Ca ∧ B ≤ Cb ∧ B ≤ ba ∧ B ≤ bb) ∧ Below B w W
theorem fePair_a {d Ca Cb k B : Nat} {w W : World} (h : FePair d Ca Cb k B w W) (hB : B ≤ w.heap.size) (hk : k ≤ 100) (T : Int) (hT : timeOk T) (n : Nat) (hn : n < 281474976710656) (Z : Int) :
    ∃ r, Calls Tryz.prog 7 #[.pointer (some ⟨Ca, 0, none⟩), .int .i64 T, .int .u64 n, .int .i64 Z] W fun e w' => e = .returned (.bool r) ∧ FeMid d Ca Cb k B w T n Z r w' ∧ ∀ (cs : Array Value) (U g : Nat), BlkIs cs U g W → U ≠ 79 → U ≠ 22 → BlkIs cs U g w' := by
  obtain ⟨x, y, ba, bb, hs, ix, iy, fa, fb, hne, hge, hbl⟩ := h
  obtain ⟨N, hN⟩ : ∃ N, max x.s.now (min T 4611686018427387904) = N := ⟨_, rfl⟩
  have hNt : timeOk N := by
    have := ix.now
    unfold timeOk at hT ⊢
    omega
  obtain ⟨sz, hz⟩ : ∃ sz : Nat, min (max Z 0) 65535 = (sz : Int) := ⟨(min (max Z 0) 65535).toNat, by omega⟩
  refine ⟨(x.put N n sz).1, (feedPut_any x ix (by omega) T N hN hNt n hn Z sz hz Ca ba W fa).mono ?_⟩
  rintro e w' ⟨rfl, ba', q1, q2, q3⟩
  have hlb := fb.lt
  refine ⟨rfl, ⟨(x.put N n sz).2, y, ba', bb, fun N' sz' hN' hz' => ?_, ix.put N n sz hn hNt (by omega), iy, q1, fb.kept q2 (by simp; omega) (by simp; omega), ⟨hne.1, by omega, hne.2.2.1, by omega⟩, ⟨hge.1, hge.2.1, by have := hbl.size; omega, hge.2.2.2⟩, hbl.trans (q2.below (by have := hbl.size; omega) (by intro x hx; simp at hx; omega))⟩, fun cs U g hb h1 h2 => hb.kept q2 (by have := fa.away hb h1 h2; simpa using this)⟩
  have e1 : N' = N := by rw [← hN', hs.now, hN]
  have e2 : sz' = sz := by omega
  subst e1 e2
  exact hs.put ix N' n sz' hn hNt
theorem fePair_b {d Ca Cb k B : Nat} {w W : World} {T : Int} {n : Nat} {Z : Int} {r : Bool} (h : FeMid d Ca Cb k B w T n Z r W) (hB : B ≤ w.heap.size) (hk : k ≤ 100) (hT : timeOk T) :
    Calls Tryz.prog 7 #[.pointer (some ⟨Cb, 0, none⟩), .int .i64 T, .int .u64 (shN d n), .int .i64 Z] W fun e w' => e = .returned (.bool r) ∧ FePair d Ca Cb (k + 1) B w w' := by
  obtain ⟨x, y, ba, bb, hs, ix, iy, fa, fb, hne, hge, hbl⟩ := h
  obtain ⟨N, hN⟩ : ∃ N, max y.s.now (min T 4611686018427387904) = N := ⟨_, rfl⟩
  have hNt : timeOk N := by
    have := iy.now
    unfold timeOk at hT ⊢
    omega
  obtain ⟨sz, hz⟩ : ∃ sz : Nat, min (max Z 0) 65535 = (sz : Int) := ⟨(min (max Z 0) 65535).toNat, by omega⟩
  obtain ⟨hr, hs2⟩ := hs N sz hN hz
  have hla := fa.lt
  refine (feedPut_any y iy (by omega) T N hN hNt (shN d n) (shN_lt d n) Z sz hz Cb bb W fb).mono ?_
  rintro e w' ⟨rfl, bb', q1, q2, q3⟩
  rw [hr]
  exact ⟨rfl, x, (y.put N (shN d n) sz).2, ba, bb', hs2, ix, iy.put N (shN d n) sz (shN_lt d n) hNt (by omega), fa.kept q2 (by simp; omega) (by simp; omega), q1, ⟨hne.1, hne.2.1, by omega, by omega⟩, ⟨hge.1, hge.2.1, hge.2.2.1, by have := hbl.size; omega⟩, hbl.trans (q2.below (by have := hbl.size; omega) (by intro x hx; simp at hx; omega))⟩
theorem Sh.opn {d : Nat} {x y : FeS} (h : Sh d x y) {K : Nat} (hx : x.Inv K) : y.opn = x.opn := by
  unfold FeS.opn
  rw [h.l]
  by_cases hl : x.l = []
  · rw [if_pos hl, if_pos hl]
  · rw [if_neg hl, if_neg hl, (h.en.resolve_left hl), (h.fn.resolve_left (fun e => hl (hx.zero e).2)).2, lenU_sh d _ _ hx.ok.en hx.new]
/-- What two such receivers tell in the end. -/
theorem fePair_end {d Ca Cb k B : Nat} {w W : World} (h : FePair d Ca Cb k B w W) (hT : TabW w) (hB : w.heap.size = B) :
    ∃ (O R : Nat) (L : Int) (l : List Nat), l.length ≤ 8 ∧
      (∀ V, Kept [] W V → Calls Tryz.prog 9 #[.pointer (some ⟨Ca, 0, none⟩)] V fun e w' => ∃ v, e = .returned (.tuple #[.int .u64 O, v]) ∧ SameAt l v w' ∧ Kept [] W w' ∧ Kept [] V w') ∧
      (∀ V, Kept [] W V → Calls Tryz.prog 9 #[.pointer (some ⟨Cb, 0, none⟩)] V fun e w' => ∃ v, e = .returned (.tuple #[.int .u64 O, v]) ∧ SameAt l v w' ∧ Kept [] W w' ∧ Kept [] V w') ∧
      (∀ V, Kept [] W V → Calls Tryz.prog 10 #[.pointer (some ⟨Ca, 0, none⟩)] V fun e w' => e = .returned (.int .i64 L) ∧ V = w') ∧
      (∀ V, Kept [] W V → Calls Tryz.prog 10 #[.pointer (some ⟨Cb, 0, none⟩)] V fun e w' => e = .returned (.int .i64 L) ∧ V = w') ∧
      (∀ V, Kept [] W V → Calls Tryz.prog 13 #[.pointer (some ⟨Ca, 0, none⟩)] V fun e w' => e = .returned (.int .u64 R) ∧ Kept [] W w') ∧
      (∀ V, Kept [] W V → Calls Tryz.prog 13 #[.pointer (some ⟨Cb, 0, none⟩)] V fun e w' => e = .returned (.int .u64 R) ∧ Kept [] W w') ∧ Below B w W := by
  obtain ⟨x, y, ba, bb, hs, ix, iy, fa, fb, hne, hge, hbl⟩ := h
  have hTV : ∀ V, Kept [] W V → TabW V := fun V hV => hT.below (by rw [hB]; exact hbl.trans (hV.below (by have := hbl.size; have := fa.lt; omega) (fun q hq => by cases hq)))
  refine ⟨x.opn, M.lossRate x.opn x.l, x.s.lost, x.l, ix.ok.ll, fun V hV => ?_, fun V hV => ?_, fun V hV => ?_, fun V hV => ?_, fun V hV => ?_, fun V hV => ?_, hbl⟩
  · refine (feedIntervals_any x ix.ok.en ix.new ix.ok.ll Ca ba V (fa.kept hV (by simp) (by simp))).mono ?_
    rintro e w' ⟨v, q1, q2, q3⟩
    exact ⟨v, q1, q2.same, hV.trans' q3, q3⟩
  · refine (feedIntervals_any y iy.ok.en iy.new iy.ok.ll Cb bb V (fb.kept hV (by simp) (by simp))).mono ?_
    rintro e w' ⟨v, q1, q2, q3⟩
    rw [hs.opn ix] at q1
    rw [hs.l] at q2
    exact ⟨v, q1, q2.same, hV.trans' q3, q3⟩
  · exact feedLost_any x Ca ba V (fa.kept hV (by simp) (by simp))
  · have h9 := feedLost_any y Cb bb V (fb.kept hV (by simp) (by simp))
    rw [hs.lost] at h9
    exact h9
  · refine (feedLoss_any x ix.ok.en ix.new ix.ok.ll ix.ok.lv Ca ba V (hTV V hV) (fa.kept hV (by simp) (by simp))).mono ?_
    rintro e w' ⟨q1, n, q2⟩
    exact ⟨q1, by rw [q2]; exact hV.drewN n⟩
  · refine (feedLoss_any y iy.ok.en iy.new iy.ok.ll iy.ok.lv Cb bb V (hTV V hV) (fb.kept hV (by simp) (by simp))).mono ?_
    rintro e w' ⟨q1, n, q2⟩
    rw [hs.opn ix, hs.l] at q1
    exact ⟨q1, by rw [q2]; exact hV.drewN n⟩
set_option maxHeartbeats 8000000 in
set_option maxRecDepth 100000 in
theorem feedRound_walk (p : Option Addr) (m c : Nat) (hm : m ≤ c) (hc : c ≤ 9223372036854775807) (dd : Nat) (hdd : dd < 18446744073709551616) (w : World) (hT : TabW w) (hops : ∀ i, i < m → FeOp p i w) :
    Calls Tryz.prog 4 #[.slice p m c, .int .u64 dd] w fun e w' => e = .returned (.bool true) ∧ Below w.heap.size w w' := by
  have HBG : Hid (Calls Tryz.prog 5 #[] w fun e w' => e = .returned (.bool true) ∧ Below w.heap.size w w') := Lib.hid (begun8_any w hT)
  have HTW := Lib.hid hT
  have HOP := Lib.hid hops
  obtain ⟨B, hB⟩ : ∃ B, w.heap.size = B := ⟨_, rfl⟩
  have HBe := Lib.hid hB
  obtain ⟨d, hd⟩ : ∃ d, dd % 281474976710656 = d := ⟨_, rfl⟩
  have hd2 : d < 281474976710656 := by omega
  have HSB : Hid (∀ W, Calls Tryz.prog 11 #[.int .u64 dd] W fun e w' => e = .returned (.int .u64 (d : Nat)) ∧ W = w') := Lib.hid (fun W => by
    have h9 := refSeq_any dd hdd W
    rw [show (dd : Int) % 281474976710656 = (d : Int) by omega] at h9
    exact h9)
  have HSN : Hid (∀ n : Nat, n < 400 → ∀ W, Calls Tryz.prog 11 #[.int .u64 ((n : Int) + (d : Int))] W fun e w' => e = .returned (.int .u64 (shN d n : Nat)) ∧ W = w') := Lib.hid (fun n hn W => by
    have h9 := refSeq_any (n + d) (by omega) W
    rw [show ((n + d : Nat) : Int) % 281474976710656 = (shN d n : Int) by unfold shN; omega] at h9
    exact h9)
  clear hT hops hd
  go_enter Tryz.func4, Tryz.ntmps4
  go_upto_region 4 with (go_at_call 5; (with_reducible refine HBG.out.mono ?_); rintro e w0 ⟨rfl, hb0⟩)
  have HN1 := Lib.hid (feedNew_any 1000 (by decide) (by decide) w0)
  have HN2 := Lib.hid (fun (W : World) (Ca : Nat) (_ : FdAt (FdS.fresh 1000) (.slice none 0 0) Ca W) => feedNew_any 1000 (by decide) (by decide) W)
  go_upto_region 5 with (go_at_call 6; (first
    | ((with_reducible refine HN1.out.mono ?_); rintro e w1 ⟨Ca, rfl, ha1, ha2, ha3⟩)
    | ((with_reducible refine (HN2.out _ _ ha1).mono ?_); rintro e w2 ⟨Cb, rfl, hb1, hb2, hb3⟩)))
  have HP0 : Hid (FePair d Ca Cb 0 B w w2) := Lib.hid (by
    have l1 := ha1.blk.lt
    have s0 := hb0.size
    have s1 := ha3.size
    exact ⟨⟨FdS.fresh 1000, []⟩, ⟨FdS.fresh 1000, []⟩, Ca, Cb, Sh.fresh d, FeS.Inv.fresh, FeS.Inv.fresh, ⟨_, ha1.below hb3, .inl ⟨rfl, rfl, rfl⟩⟩, ⟨_, hb1, .inl ⟨rfl, rfl, rfl⟩⟩, ⟨by omega, by omega, by omega, by omega⟩, ⟨by omega, by omega, by omega, by omega⟩, by rw [← hB]; exact bel_trans (bel_trans hb0 ha3) hb3⟩)
  clear hb0 ha1 ha2 ha3 hb1 hb2 hb3 HN1 HN2 hB
  go_wp2
  go_loopw [8] (fun i wr => ∃ k : Nat, i = .int .i64 (k : Int) ∧ k ≤ m ∧ k ≤ 50 ∧ Hid (FePair d Ca Cb k B w wr)) (fun i _ => 50 - (intOf i).toNat)
  case atStart => exact ⟨0, rfl, by omega, by omega, HP0⟩
  case round =>
    obtain ⟨k, rfl, hkm, hk50, hpr⟩ := hrel
    by_cases hgo : k < m ∧ k < 50
    · obtain ⟨g1, g2⟩ := hgo
      have d0 : decide ((k : Int) < (m : Int)) = true := decide_eq_true (by omega)
      have d1 : decide ((k : Int) < 50) = true := decide_eq_true (by omega)
      have d2 : decide ((k : Int) < 0) = false := decide_eq_false (by omega)
      obtain ⟨b, o, z0, z1, nn, z3, rfl, hbl, x0, x1, x2, x3, y1, y2, y3⟩ := HOP.out k g1
      have hbel : Below B w wr := by obtain ⟨_, _, _, _, _, _, _, _, _, _, _, h⟩ := hpr.out; exact h
      have hlb : b < B := by rw [← HBe.out]; exact hbl
      have c0 := (hbel.cell (p := ⟨b, o + k * 4, none⟩) hlb).trans x0
      have c1 := (hbel.cell (p := ⟨b, o + k * 4 + 1, none⟩) hlb).trans x1
      have c2 := (hbel.cell (p := ⟨b, o + k * 4 + 2, none⟩) hlb).trans x2
      have c3 := (hbel.cell (p := ⟨b, o + k * 4 + 3, none⟩) hlb).trans x3
      obtain ⟨T0, hT0⟩ : ∃ T0, min z3 2305843009213693952 = T0 := ⟨_, rfl⟩
      obtain ⟨T, hT⟩ : ∃ T, max 0 T0 = T := ⟨_, rfl⟩
      obtain ⟨t1, t2, _, t4, _⟩ := mni _ _ T0 hT0
      obtain ⟨t5, t6, t7, _, t8⟩ := mxi _ _ T hT
      have HTO : Hid (timeOk T) := Lib.hid (by unfold timeOk; omega)
      obtain ⟨n, hn⟩ : ∃ n, nn % 400 = n := ⟨_, rfl⟩
      have hn4 : n < 400 := by omega
      have n1 : (nn : Int) % 400 = (n : Int) := by omega
      have n2 : (nn : Int).tmod 400 = (n : Int) := by rw [Int.tmod_eq_emod_of_nonneg (by omega)]; exact n1
      obtain ⟨WR, hWR⟩ : ∃ WR, WR = wr.alloc (.cells #[.int .i64 z0, .int .i64 z1, .int .u64 nn, .int .i64 z3] 35) := ⟨_, rfl⟩
      have hbx : BlkIs #[.int .i64 z0, .int .i64 z1, .int .u64 nn, .int .i64 z3] 35 wr.heap.size WR := by rw [hWR]; exact BlkIs.new _ _ _
      have hpr2 : FePair d Ca Cb k B w WR.drew := by
        obtain ⟨x, y, ba, bb, h1, h2, h3, h4, h5, h6, h7, h8⟩ := hpr.out
        have hw : Below wr.heap.size wr WR.drew := by rw [hWR]; exact bel_trans (bel_alloc _ _) (bel_drewN _ 1)
        exact ⟨x, y, ba, bb, h1, h2, h3, h4.below hw, h5.below hw, h6, h7, h8.trans (hw.mono (by have := h8.size; have := HBe.out; omega))⟩
      obtain ⟨r, hPA⟩ := fePair_a hpr2 (by have := HBe.out; omega) (by omega) T HTO.out n (by omega) z1
      have HPA := Lib.hid hPA
      have HPB := Lib.hid (fun W (h : FeMid d Ca Cb k B w T n z1 r W) => fePair_b h (by have := HBe.out; omega) (by omega) HTO.out)
      have HBX := Lib.hid hbx
      have HSN2 := Lib.hid (HSN.out n hn4)
      have e1 : WR.cell? ⟨wr.heap.size, 1, none⟩ = some (.int .i64 z1) := hbx.cell 1
      have e2 : WR.cell? ⟨wr.heap.size, 2, none⟩ = some (.int .u64 nn) := hbx.cell 2
      have e3 : WR.cell? ⟨wr.heap.size, 3, none⟩ = some (.int .i64 z3) := hbx.cell 3
      clear x0 x1 x2 x3 hbel hpr2 hPA hbx hpr hn t4 t8 t7
      go_upto_region 9 with fail
      rw [← hWR]
      clear hWR c0 c1 c2 c3
      obtain ⟨Bx, hBx⟩ : ∃ Bx, wr.heap.size = Bx := ⟨_, rfl⟩
      rw [hBx] at e1 e2 e3 HBX ⊢
      go_upto_region 11 with fail
      have u1 : IntKind.u64.wrap ((n : Int) + (d : Int)) = (n : Int) + (d : Int) := by rw [IntKind.wrap_u64]; omega
      clear t1 t2 t5 t6 n1 n2 y1 y2 y3 e3 e2
      go_region_with (first
        | (go_at_call 7; (first
          | ((with_reducible refine HPA.out.mono ?_); rintro e wA ⟨rfl, hmid, hkp⟩; have cA : wA.cell? ⟨Bx, 1, none⟩ = some (.int .i64 z1) := (hkp _ _ _ (BlkIs.drewN HBX.out 1) (by decide) (by decide)).cell 1)
          | ((with_reducible refine (HPB.out _ hmid).mono ?_); rintro e wB ⟨rfl, hpB⟩)))
        | (go_at_call 11; (first
          | ((with_reducible refine (HSB.out _).mono ?_); rintro e w5 ⟨rfl, rfl⟩)
          | ((with_reducible refine (HSN2.out _).mono ?_); rintro e w6 ⟨rfl, rfl⟩))))
      all_goals
        have HB2 := Lib.hid hpB
        go_wp2
        refine ⟨⟨k + 1, by go_num, by omega, by omega, HB2⟩, ?_⟩
        simp [intOf]; omega
    · obtain ⟨O, R, L, l, hl8, hIa, hIb, hLa, hLb, hPa, hPb, hbl⟩ := fePair_end hpr.out HTW.out HBe.out
      have HIa := Lib.hid (hIa wr (Kept.refl _ _))
      have HIb := Lib.hid hIb
      have HLa := Lib.hid hLa
      have HLb := Lib.hid hLb
      have HPa := Lib.hid hPa
      have HPb := Lib.hid hPb
      have HSM := Lib.hid (fun va vb W (h1 : SameAt l va W) (h2 : SameAt l vb W) => same_any l (by omega) va vb W h1 h2)
      have HBL := Lib.hid hbl
      clear hIa hIb hLa hLb hPa hPb hbl hpr HP0 HOP HSB HSN
      have hex : ¬ k < m ∨ (k < m ∧ ¬ k < 50) := by omega
      clear hgo
      rcases hex with g0 | ⟨g0, g1⟩
      all_goals (first
        | (have d0 : decide ((k : Int) < (m : Int)) = false := decide_eq_false (by omega)
           go_upto_region 13 with fail
           clear d0 g0)
        | (have d0 : decide ((k : Int) < (m : Int)) = true := decide_eq_true (by omega)
           have d1 : decide ((k : Int) < 50) = false := decide_eq_false (by omega)
           go_upto_region 13 with fail
           clear d0 d1 g0 g1))
      all_goals
        go_upto_region 14 with (go_at_call 9; (with_reducible refine HIa.out.mono ?_); rintro e wI ⟨va, rfl, i1, i2, i3⟩)
        have HIb2 := Lib.hid (HIb.out wI i2)
        have I1 := Lib.hid i1
        clear i1 i2 i3
        go_upto_region 15 with (go_at_call 9; (with_reducible refine HIb2.out.mono ?_); rintro e wJ ⟨vb, rfl, j1, j2, j3⟩)
        have HSM2 := Lib.hid (HSM.out va vb wJ (I1.out.kept j3 (fun q _ => by simp)) j1)
        have J2 := Lib.hid j2
        clear j1 j2 j3
        go_wp2_with (first
          | (go_at_call 12; (with_reducible refine HSM2.out.mono ?_); rintro e wS ⟨rfl, nS, rfl⟩; have hS := J2.out.drewN nS)
          | (go_at_call 10; (first
            | ((with_reducible refine (HLa.out _ hS).mono ?_); rintro e w5 ⟨rfl, rfl⟩)
            | ((with_reducible refine (HLb.out _ hS).mono ?_); rintro e w6 ⟨rfl, rfl⟩)))
          | (go_at_call 13; (first
            | ((with_reducible refine (HPa.out _ hS).mono ?_); rintro e wP ⟨rfl, hP⟩)
            | ((with_reducible refine (HPb.out _ hP).mono ?_); rintro e wQ ⟨rfl, hQ⟩))))
        go_ret
        exact ⟨rfl, by rw [HBe.out]; exact HBL.out.trans (hQ.below (by have := HBL.out.size; have := HBe.out; omega) (fun q hq => by cases hq))⟩
end Go.Proofs.YtbiglbclifbmhaaGreatDoor
