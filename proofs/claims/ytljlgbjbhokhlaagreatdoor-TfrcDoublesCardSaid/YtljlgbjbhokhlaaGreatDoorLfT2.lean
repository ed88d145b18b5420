/-
  Rows of numbers, and of pairs of numbers, that came in as arguments, opened.
  What the laid table of the weights says.
  The law TfrcLimited, walked.
  The law TfrcDoubles, walked.
-/
import Derived.Test.YtljlgbjbhokhlaaGreatDoorIvalA
import Derived.Test.YtljlgbjbhokhlaaGreatDoorIntR
import Derived.Test.YtljlgbjbhokhlaaGreatDoorVecB
import Derived.OpenShut
import Derived.ChangeSlices
import Derived.ChangeSame
import Derived.Deep.Slices
import Derived.Deep.SlicePairs
import Derived.Test.YtljlgbjbhokhlaaGreatDoorRows
import Derived.Lib.LaidU8
import Derived.Lib.LaidTab
import Derived.MakeChecks
import Derived.Test.YtljlgbjbhokhlaaGreatDoorLfT
import Derived.Test.YtljlgbjbhokhlaaGreatDoorBegun8
namespace Go.Proofs.YtljlgbjbhokhlaaGreatDoor
open Go.ChangeShapes Go.WideShapes Go.Deep Go.RowKit
set_option linter.unusedVariables false

theorem addr_plain {w : World} {a : Addr} {v : Value} (h : w.cell? (a.add 0) = some v) : ∃ b o, a = ⟨b, o, none⟩ ∧ b < w.heap.size := by
  have e : a.add 0 = a := by unfold Addr.add; split <;> simp_all
  rw [e] at h
  have hs : a.spot = none := by
    unfold World.cell? at h
    split at h
    · cases hsp : a.spot with
      | none => rfl
      | some x => rw [hsp] at h; simp at h
    · cases h
  have hb := World.block_lt_of_cell? w a h
  obtain ⟨b, o, sp⟩ := a
  simp only at hs
  subst hs
  exact ⟨b, o, rfl, hb⟩
theorem add_plain (b o k : Nat) : (⟨b, o, none⟩ : Addr).add k = ⟨b, o + k, none⟩ := by unfold Addr.add; split <;> simp_all

theorem open_row {H : Type} {enc : TypeId × Value → H} {W : World} {t e : TypeId} {k : IntKind} {p : Option Addr} {n c : Nat} {d : DataW H} {q : List MemPlace}
    (ht : Tryz.prog.underlying t = some (.slice e)) (he : Tryz.prog.underlying e = some (.int k)) (hc : Tryz.prog.cellsOf e = 1)
    (h : DataW.Trod enc Tryz.prog W 0 (fun _ => true) true t (.slice p n c) d q) :
    n ≤ c ∧ c ≤ 9223372036854775807 ∧ ∃ zs : List Int, n ≤ zs.length ∧ (∀ z ∈ zs, (Lit.int k z).wf = true) ∧ ∀ i, i < n → ∃ b o, p = some ⟨b, o, none⟩ ∧ b < W.heap.size ∧ W.cell? ⟨b, o + i, none⟩ = some (.int k (zs.getD i 0)) := by
  obtain ⟨fuel, hf⟩ := h
  rcases open_ints ht he hc hf with ⟨hcs, hx⟩ | ⟨a, len', cap', zs, hcs, _, hl, hm, hz, hx, hcell, hwz⟩
  · simp [Value.cells] at hcs
    obtain ⟨rfl, rfl, rfl⟩ := hcs
    exact ⟨by omega, by omega, [], by simp, by simp, fun i hi => absurd hi (Nat.not_lt_zero i)⟩
  · simp [Value.cells] at hcs
    obtain ⟨rfl, rfl, rfl⟩ := hcs
    simp only [if_true] at hz
    have hm' : c ≤ 9223372036854775807 := hm
    refine ⟨hl, hm', zs, by omega, hwz, fun i hi => ?_⟩
    obtain ⟨b, o, rfl, hb⟩ := addr_plain (hcell 0 (by omega))
    have h1 := hcell i (by omega)
    rw [add_plain] at h1
    exact ⟨b, o, rfl, hb, h1⟩

theorem getD_take_lt {α : Type} (l : List α) (d : α) (m i : Nat) (h : i < m) : (l.take m).getD i d = l.getD i d := by
  rw [List.getD_eq_getElem?_getD, List.getD_eq_getElem?_getD, List.getElem?_take, if_pos h]
theorem getD_prop {α : Type} {P : α → Prop} {l : List α} {d : α} (h : ∀ z ∈ l, P z) (hd : P d) (i : Nat) : P (l.getD i d) := by
  rw [List.getD_eq_getElem?_getD]
  by_cases hi : i < l.length
  · rw [List.getElem?_eq_getElem hi]; exact h _ (List.getElem_mem _)
  · rw [List.getElem?_eq_none (by omega)]; exact hd

/-- Its first m numbers, signed. -/
theorem open_i64s {H : Type} {enc : TypeId × Value → H} {W : World} {t e : TypeId} {p : Option Addr} {n c : Nat} {d : DataW H} {q : List MemPlace} (m : Nat) (hm : m ≤ 1073741824)
    (ht : Tryz.prog.underlying t = some (.slice e)) (he : Tryz.prog.underlying e = some (.int .i64)) (hc : Tryz.prog.cellsOf e = 1)
    (h : DataW.Trod enc Tryz.prog W 0 (fun _ => true) true t (.slice p n c) d q) :
    n ≤ c ∧ c ≤ 9223372036854775807 ∧ ∃ l : List Int, l.length = min n m ∧ I64At W (.slice p l.length c) l := by
  obtain ⟨h1, h2, zs, h3, h4, h5⟩ := open_row ht he hc h
  have hl : (zs.take (min n m)).length = min n m := by rw [List.length_take]; omega
  refine ⟨h1, h2, zs.take (min n m), hl, ⟨p, c, rfl, by omega, h2, fun i hi => ?_⟩, by omega, fun i => ?_⟩
  · rw [getD_take_lt _ _ _ _ (by omega)]
    exact h5 i (by omega)
  · exact getD_prop (P := fun z => -9223372036854775808 ≤ z ∧ z ≤ 9223372036854775807) (fun z hz => bounds_i64 (h4 z (List.mem_of_mem_take hz))) (by decide) i
/-- All its numbers, signed. -/
theorem open_i64w {H : Type} {enc : TypeId × Value → H} {W : World} {t e : TypeId} {p : Option Addr} {n c : Nat} {d : DataW H} {q : List MemPlace}
    (ht : Tryz.prog.underlying t = some (.slice e)) (he : Tryz.prog.underlying e = some (.int .i64)) (hc : Tryz.prog.cellsOf e = 1)
    (h : DataW.Trod enc Tryz.prog W 0 (fun _ => true) true t (.slice p n c) d q) :
    n ≤ c ∧ c ≤ 9223372036854775807 ∧ ∃ l : List Int, l.length = n ∧ ∀ i, i < l.length → ∃ b o, p = some ⟨b, o, none⟩ ∧ b < W.heap.size ∧ W.cell? ⟨b, o + i, none⟩ = some (.int .i64 (l.getD i 0)) := by
  obtain ⟨h1, h2, zs, h3, h4, h5⟩ := open_row ht he hc h
  have hl : (zs.take n).length = n := by rw [List.length_take]; omega
  refine ⟨h1, h2, zs.take n, hl, fun i hi => ?_⟩
  rw [getD_take_lt _ _ _ _ (by omega)]
  exact h5 i (by omega)
/-- Its first m numbers, without a sign. -/
theorem open_u64s {H : Type} {enc : TypeId × Value → H} {W : World} {t e : TypeId} {p : Option Addr} {n c : Nat} {d : DataW H} {q : List MemPlace} (m : Nat) (hm : m ≤ 1073741824)
    (ht : Tryz.prog.underlying t = some (.slice e)) (he : Tryz.prog.underlying e = some (.int .u64)) (hc : Tryz.prog.cellsOf e = 1)
    (h : DataW.Trod enc Tryz.prog W 0 (fun _ => true) true t (.slice p n c) d q) :
    n ≤ c ∧ c ≤ 9223372036854775807 ∧ ∃ l : List Nat, l.length = min n m ∧ U64At W (.slice p l.length c) l := by
  obtain ⟨h1, h2, zs, h3, h4, h5⟩ := open_row ht he hc h
  have hb : ∀ i, 0 ≤ zs.getD i 0 ∧ zs.getD i 0 ≤ 18446744073709551615 := fun i => getD_prop (P := fun z => 0 ≤ z ∧ z ≤ 18446744073709551615) (fun z hz => bounds_u64 (h4 z hz)) (by decide) i
  have hl : ((zs.take (min n m)).map Int.toNat).length = min n m := by rw [List.length_map, List.length_take]; omega
  have hg : ∀ i, i < min n m → ((((zs.take (min n m)).map Int.toNat).getD i 0 : Nat) : Int) = zs.getD i 0 := fun i hi => by
    have h6 := hb i
    rw [List.getD_eq_getElem?_getD] at h6
    rw [List.getD_eq_getElem?_getD, List.getD_eq_getElem?_getD, List.getElem?_map, List.getElem?_take, if_pos hi]
    have hz : i < zs.length := by omega
    rw [List.getElem?_eq_getElem hz] at h6 ⊢
    simp only [Option.getD_some, Option.map_some] at h6 ⊢
    omega
  refine ⟨h1, h2, (zs.take (min n m)).map Int.toNat, hl, ⟨p, c, rfl, by omega, h2, fun i hi => ?_⟩, by omega, fun i => ?_⟩
  · rw [hg i (by omega)]
    exact h5 i (by omega)
  · by_cases hi : i < min n m
    · have h6 := hb i
      have h7 := hg i hi
      omega
    · rw [List.getD_eq_getElem?_getD, List.getElem?_eq_none (by omega)]
      decide

/-- A row of pairs of numbers, whole. -/
theorem open_pairs {H : Type} {enc : TypeId × Value → H} {W : World} {t e : TypeId} {f0 f1 : Field} {p : Option Addr} {n c : Nat} {d : DataW H} {q : List MemPlace}
    (ht : Tryz.prog.underlying t = some (.slice e)) (he : Tryz.prog.underlying e = some (.struct #[f0, f1])) (ce : Tryz.prog.cellsOf e = 2) (o0 : f0.offset = 0) (o1 : f1.offset = 1) (c0 : Tryz.prog.cellsOf f0.type = 1) (c1 : Tryz.prog.cellsOf f1.type = 1)
    (u0 : Tryz.prog.underlying f0.type = some (.int .i64)) (u1 : Tryz.prog.underlying f1.type = some (.int .i64))
    (h : DataW.Trod enc Tryz.prog W 0 (fun _ => true) true t (.slice p n c) d q) :
    n ≤ c ∧ c ≤ 9223372036854775807 ∧ ∃ l : List Cel, l.length = n ∧ (∀ x ∈ l, -9223372036854775808 ≤ x.2 ∧ x.2 ≤ 9223372036854775807) ∧
      ∀ i, i < l.length → ∃ b o, p = some ⟨b, o, none⟩ ∧ b < W.heap.size ∧ W.cell? ⟨b, o + i * 2, none⟩ = some (.int .i64 (l.getD i (0, 0)).1) ∧ W.cell? ⟨b, o + i * 2 + 1, none⟩ = some (.int .i64 (l.getD i (0, 0)).2) := by
  obtain ⟨fuel, hf⟩ := h
  rcases open_slice_pairs ht he ce o0 o1 c0 c1 hf with ⟨hcs, hx⟩ | ⟨a, len, cap, m, n', V0, V1, D0, D1, P0, P1, hcs, _, hl, hm, hmm, hx, hi⟩
  · simp [Value.cells] at hcs
    obtain ⟨rfl, rfl, rfl⟩ := hcs
    exact ⟨by omega, by omega, [], rfl, by simp, fun i hi => absurd hi (Nat.not_lt_zero i)⟩
  · simp [Value.cells] at hcs
    obtain ⟨rfl, rfl, rfl⟩ := hcs
    have hm' : c ≤ 9223372036854775807 := hm
    simp only [if_true] at hmm
    have key : ∀ i, i < n → ∃ x : Cel, V0 i = .int .i64 x.1 ∧ V1 i = .int .i64 x.2 ∧ (-9223372036854775808 ≤ x.2 ∧ x.2 ≤ 9223372036854775807) := by
      intro i hin
      obtain ⟨_, _, k0, k1⟩ := hi i (by omega)
      obtain ⟨z0, hz0, _, _⟩ := DataW.trod_int u0 k0
      obtain ⟨z1, hz1, _, hw1⟩ := DataW.trod_int u1 k1
      simp at hz0 hz1
      exact ⟨(z0, z1), hz0, hz1, bounds_i64 hw1⟩
    have hlist : ∀ m', m' ≤ n → ∃ l : List Cel, l.length = m' ∧ (∀ x ∈ l, -9223372036854775808 ≤ x.2 ∧ x.2 ≤ 9223372036854775807) ∧ ∀ i, i < m' → V0 i = .int .i64 (l.getD i (0, 0)).1 ∧ V1 i = .int .i64 (l.getD i (0, 0)).2 := by
      intro m'
      induction m' with
      | zero => exact fun _ => ⟨[], rfl, by simp, fun i hi => absurd hi (Nat.not_lt_zero i)⟩
      | succ m' ih =>
        intro hmn
        obtain ⟨l, hl1, hl2, hl3⟩ := ih (by omega)
        obtain ⟨x, hx0, hx1, hx2⟩ := key m' (by omega)
        refine ⟨l ++ [x], by simp [hl1], fun y hy => ?_, fun i hi' => ?_⟩
        · rcases List.mem_append.1 hy with h8 | h8
          · exact hl2 y h8
          · rw [List.mem_singleton.1 h8]; exact hx2
        · by_cases e' : i < m'
          · have h9 := hl3 i e'
            rw [List.getD_eq_getElem?_getD] at h9 ⊢
            rwa [List.getElem?_append_left (by omega)]
          · obtain rfl : i = m' := by omega
            rw [List.getD_eq_getElem?_getD, List.getElem?_append_right (by omega), hl1]
            simpa using ⟨hx0, hx1⟩
    obtain ⟨l, hl1, hl2, hl3⟩ := hlist n (Nat.le_refl _)
    refine ⟨hl, hm', l, hl1, hl2, fun i hi' => ?_⟩
    have h0 := (hi 0 (by omega)).1
    rw [Nat.zero_mul] at h0
    obtain ⟨b, o, rfl, hb⟩ := addr_plain h0
    obtain ⟨h6, h7, _, _⟩ := hi i (by omega)
    obtain ⟨h8, h9⟩ := hl3 i (by omega)
    rw [add_plain] at h6 h7
    rw [h8] at h6
    rw [h9] at h7
    exact ⟨b, o, rfl, hb, h6, h7⟩
end Go.Proofs.YtljlgbjbhokhlaaGreatDoor

namespace Go.Proofs.YtljlgbjbhokhlaaGreatDoor
open Go.ChangeShapes Go.WideShapes Go.ChangeAt Go.RowKit
set_option linter.unusedVariables false
set_option linter.unusedSimpArgs false

theorem tabW_laid {W : World} {l : List (String × DataW Unit)} (h : laidMet Tryz.prog l W) (hm : ("muleteer/ival.weights", (Rows.laid_muleteer_ival_weights : DataW Unit)) ∈ l) : TabW W := by
  obtain ⟨ps, h, _⟩ := h
  obtain ⟨g, t, cs, fuel, p, hg, ht, hvar, hd⟩ := Lib.LaidVars_reads h _ _ hm
  rw [show (Rows.laid_muleteer_ival_weights : DataW Unit) = Lib.tabData .u64 [5, 5, 5, 5, 4, 3, 2, 1] by kernel_rfl] at hd
  have e : Tryz.prog.globalNamed "muleteer/ival.weights" = some 2 := by kernel_rfl
  obtain rfl := Option.some.inj (e.symm.trans hg)
  obtain rfl : t = 227 := (Option.some.inj ((show (Tryz.prog.globals[2]?).map (·.type) = some 227 by kernel_rfl).symm.trans ht)).symm
  have hc := Lib.cells_of_tab Tryz.underlying227 Tryz.underlying22 (by kernel_rfl) (by kernel_rfl) hd
  obtain ⟨cl⟩ := cs
  simp only at hc
  subst hc
  intro i hi
  have h1 := World.var?_cell e hvar i
  rw [h1]
  obtain rfl | rfl | rfl | rfl | rfl | rfl | rfl | rfl : i = 0 ∨ i = 1 ∨ i = 2 ∨ i = 3 ∨ i = 4 ∨ i = 5 ∨ i = 6 ∨ i = 7 := by omega
  all_goals rfl
end Go.Proofs.YtljlgbjbhokhlaaGreatDoor

namespace Go.Proofs.YtljlgbjbhokhlaaGreatDoor
open Go.ChangeShapes Go.WideShapes Go.ChangeAt Go.RowKit
set_option linter.unusedVariables false
set_option linter.unusedSimpArgs false

theorem kb3 {w W W' : World} {C P : Nat} {v : Value} (h : Below w.heap.size w W) (k : Kept (C :: P :: own v) W W') (hC : w.heap.size ≤ C) (hP : w.heap.size ≤ P) (hv : ∀ g, v.ownBlock = some g → w.heap.size ≤ g) : Below w.heap.size w W' := h.trans (k.below h.size (by
  intro x hx
  rcases List.mem_cons.1 hx with e | hx
  · omega
  · rcases List.mem_cons.1 hx with e | hx
    · omega
    · unfold own at hx
      cases hv2 : v.ownBlock with
      | none => rw [hv2] at hx; cases hx
      | some g => rw [hv2] at hx; simp at hx; have := hv g hv2; omega))
theorem ownUp {w W : World} {v v' : Value} (hb : w.heap.size ≤ W.heap.size) (hv : ∀ g, v.ownBlock = some g → w.heap.size ≤ g) (h : v'.ownBlock = v.ownBlock ∨ ∃ g, v'.ownBlock = some g ∧ W.heap.size ≤ g) : ∀ g, v'.ownBlock = some g → w.heap.size ≤ g := by
  intro g hg
  rcases h with h | ⟨q, h, h2⟩
  · exact hv g (by rw [← h]; exact hg)
  · rw [h] at hg; cases hg; omega
/-- A rate that lies above all that was there. -/
structure TfUp (w : World) (C P : Nat) (v : Value) (W : World) : Prop where
  b : Below w.heap.size w W
  c : w.heap.size ≤ C
  p : w.heap.size ≤ P
  v : ∀ g, v.ownBlock = some g → w.heap.size ≤ g
theorem TfUp.next {w : World} {C P : Nat} {v v' : Value} {W W' : World} (h : TfUp w C P v W) (k : Kept (C :: P :: own v) W W') (hv : v'.ownBlock = v.ownBlock ∨ ∃ g, v'.ownBlock = some g ∧ W.heap.size ≤ g) : TfUp w C P v' W' := ⟨kb3 h.b k h.c h.p h.v, h.c, h.p, ownUp h.b.size h.v hv⟩
theorem TfUp.below {w : World} {C P : Nat} {v : Value} {W W' : World} (h : TfUp w C P v W) (k : Below W.heap.size W W') : TfUp w C P v W' := ⟨bel_trans h.b k, h.c, h.p, h.v⟩
theorem mod_atL (x m : Int) (hm : 0 < m) : ∃ a, x.tmod m = a ∧ -m < a ∧ a < m ∧ ∃ j : Nat, (a + m).tmod m = (j : Int) ∧ (j : Int) < m := mod_at x m hm
set_option maxHeartbeats 16000000 in
set_option maxRecDepth 100000 in
theorem tfrcLimited_walk (size r : Int) (x y p : Nat) (s1 : -9223372036854775808 ≤ size) (s2 : size ≤ 9223372036854775807) (r1 : -9223372036854775808 ≤ r) (r2 : r ≤ 9223372036854775807) (hx : x < 18446744073709551616) (hy : y < 18446744073709551616) (hp : p < 18446744073709551616) (w : World) (hT : TabW w) :
    Calls Tryz.prog 15 #[.int .i64 size, .int .i64 r, .int .u64 x, .int .u64 y, .int .u64 p] w fun e w' => e = .returned (.bool true) ∧ Below w.heap.size w w' := by
  have HBG : Hid (∀ W, Below w.heap.size w W → Calls Tryz.prog 18 #[] W fun e w' => e = .returned (.bool true) ∧ Below W.heap.size W w') := Lib.hid (fun W hb => begun8_any W (hT.below hb))
  clear hT
  obtain ⟨a, ha, a1, a2, J, hJ, hJ3⟩ := mod_atL size 1400 (by decide)
  obtain ⟨S, hS⟩ : ∃ S : Nat, 1 + (J : Int) = (S : Int) := ⟨1 + J, by omega⟩
  have hS1 : 1 ≤ S := by omega
  have hS2 : S ≤ 1400 := by omega
  obtain ⟨m1, hm1⟩ : ∃ m, min r 1048576 = m := ⟨_, rfl⟩
  obtain ⟨m2, hm2⟩ : ∃ m, max 0 m1 = m := ⟨_, rfl⟩
  obtain ⟨u1, u2, u3, u4, u5⟩ := mni r 1048576 m1 hm1
  obtain ⟨v1, v2, v3, v4, v5⟩ := mxi 0 m1 m2 hm2
  obtain ⟨R, hR⟩ : ∃ R : Nat, 1000 + m2 = (R : Int) := ⟨(1000 + m2).toNat, by omega⟩
  have hR1 : 1000 ≤ R := by omega
  have hR2 : R ≤ 1049576 := by omega
  obtain ⟨X, hX⟩ : ∃ X, 1 + x % 1099511627776 = X := ⟨_, rfl⟩
  obtain ⟨Y, hY⟩ : ∃ Y, y % 1099511627776 = Y := ⟨_, rfl⟩
  obtain ⟨Pp, hP⟩ : ∃ P, 1 + p % 2147483648 = P := ⟨_, rfl⟩
  have hX1 : (1 : Int) + ((x : Int) % 1099511627776) = (X : Int) := by omega
  have hX2 : (x : Int).tmod 1099511627776 = (x : Int) % 1099511627776 := Int.tmod_eq_emod_of_nonneg (by omega)
  have hY1 : (y : Int) % 1099511627776 = (Y : Int) := by omega
  have hY2 : (y : Int).tmod 1099511627776 = (Y : Int) := by rw [Int.tmod_eq_emod_of_nonneg (by omega)]; exact hY1
  have hP1 : (1 : Int) + ((p : Int) % 2147483648) = (Pp : Int) := by omega
  have hP2 : (p : Int).tmod 2147483648 = (p : Int) % 2147483648 := Int.tmod_eq_emod_of_nonneg (by omega)
  have bX : 1 ≤ X ∧ X ≤ 1099511627776 := by omega
  have bY : Y ≤ 1099511627776 := by omega
  have bP : 1 ≤ Pp ∧ Pp ≤ 2147483648 := by omega
  obtain ⟨bX1, bX2⟩ := bX
  obtain ⟨bP1, bP2⟩ := bP
  have e1 : IntKind.u64.wrap ((x : Int) % 1099511627776) = (x : Int) % 1099511627776 := IntWalk.u64_in _ (by omega)
  have e2 : IntKind.u64.wrap (Y : Int) = (Y : Int) := IntWalk.u64_in _ (by omega)
  have e3 : IntKind.u64.wrap ((p : Int) % 2147483648) = (p : Int) % 2147483648 := IntWalk.u64_in _ (by omega)
  have e4 : IntKind.u64.wrap (X : Int) = (X : Int) := IntWalk.u64_in _ (by omega)
  have e5 : IntKind.u64.wrap (Pp : Int) = (Pp : Int) := IntWalk.u64_in _ (by omega)
  have HNW := Lib.hid (fun W => tfNew_any S hS1 hS2 W)
  have HH1 := Lib.hid (fun (C P : Nat) (v : Value) W (h : TfAt ⟨S, 64 * S, 0, 0, 0, false, 0, false⟩ [(0, 18446744073709551615)] C P v W) => (show Calls Tryz.prog 38 #[.pointer (some ⟨C, 0, none⟩), .int .i64 0, .int .i64 R, .int .u64 1, .int .u64 0, .bool false] W _ from tfJ_first S R hS1 hS2 (by omega) (by omega) 1 (by omega) C P v W h))
  obtain ⟨t0, ht0⟩ : ∃ t0 : TfS, (⟨S, 64 * S, 0, 0, 0, false, 0, false⟩ : TfS) = t0 := ⟨_, rfl⟩
  rw [ht0] at HNW HH1
  clear ht0
  obtain ⟨F1, hF1⟩ : ∃ F, max (M.tfInit S R) S = F := ⟨_, rfl⟩
  rw [hF1] at HH1
  -- the second one
  obtain ⟨N2, hN2⟩ : ∃ N : Int, 3 * (R : Int) + 1 = N := ⟨_, rfl⟩
  obtain ⟨T1, hT1⟩ : ∃ T, max X 1 = T := ⟨_, rfl⟩
  have hmx1 : M.maxNT [(0, 18446744073709551615), (0, 1)] X = T1 := by unfold M.maxNT; simp; exact hT1
  have HH2 := Lib.hid (fun (s : TfS) (hs : TfP S R 0 0 F1 s) (C P : Nat) (v : Value) W (h : TfAt s [(0, 18446744073709551615), (0, 1)] C P v W) => tfJ_dbl S R 0 F1 (by omega) s hs N2 (by omega) (by omega) X (by omega) X (by omega) [(0, 18446744073709551615), (0, 1)] (by simp) (by simp) (by simp) C P v W h)
  rw [hmx1] at HH2
  obtain ⟨F2, hF2⟩ : ∃ F, max (max (min (M.mulT 2 F1) (M.mulT 2 T1)) (M.tfInit S R)) S = F := ⟨_, rfl⟩
  rw [hF2] at HH2
  have HTP1 := Lib.hid (fun (s : TfS) (hs : TfP S R 0 N2 F2 s) (C P : Nat) (v : Value) W (h : TfAt s [(N2, T1)] C P v W) => tfTop_any s hs.ok [(N2, T1)] (by simp) (by simp) C P v W h)
  rw [maxPr_one] at HTP1
  -- the third one
  obtain ⟨N3, hN3⟩ : ∃ N : Int, 6 * (R : Int) + 2 = N := ⟨_, rfl⟩
  obtain ⟨h1, hh1⟩ : ∃ h, T1 / 2 = h := ⟨_, rfl⟩
  obtain ⟨y1, hy1⟩ : ∃ h, Y * 17 / 20 = h := ⟨_, rfl⟩
  obtain ⟨LM, hLM⟩ : ∃ h, max h1 y1 = h := ⟨_, rfl⟩
  have hT1b : T1 ≤ 1099511627776 := by omega
  have hmx2 : M.maxNT ([(N2, T1)].map M.halfPr) y1 = LM := by
    have e : M.halfPr (N2, T1) = (N2, h1) := by unfold M.halfPr; rw [if_neg (by simp only; omega), ← hh1]
    rw [List.map_cons, List.map_nil, e]
    unfold M.maxNT
    simp only [List.foldl_cons, List.foldl_nil]
    rw [if_neg (by omega), ← hLM, Nat.max_comm]
  have HH3 := Lib.hid (fun (s : TfS) (hs : TfP S R 0 N2 F2 s) (C P : Nat) (v : Value) W (h : TfAt s [(N2, T1)] C P v W) => tfJ_p S R N2 F2 (by omega) s hs N3 (by omega) Y (by omega) y1 hy1 Pp (by omega) (by omega) [(N2, T1)] (by simp) (by simp) (by simp; omega) C P v W h)
  rw [hmx2] at HH3
  obtain ⟨G, hG⟩ : ∃ G, M.eqnRate S R Pp = G := ⟨_, rfl⟩
  obtain ⟨F3, hF3⟩ : ∃ F, max (min G LM) S = F := ⟨_, rfl⟩
  rw [hG, hF3] at HH3
  have HTP2 := Lib.hid (fun (s : TfS) (hs : TfP S R Pp N2 F3 s) (C P : Nat) (v : Value) W (h : TfAt s [(N3, LM)] C P v W) => tfTop_any s hs.ok [(N3, LM)] (by simp) (by simp) C P v W h)
  rw [maxPr_one] at HTP2
  have HRA := Lib.hid (fun (s : TfS) (hs : TfP S R Pp N2 F3 s) (l : List Pr) (C P : Nat) (v : Value) W (h : TfAt s l C P v W) => (show Calls Tryz.prog 39 #[.pointer (some ⟨C, 0, none⟩)] W fun e w' => e = .returned (.int .u64 F3) ∧ W = w' from by
    have h1 := tfRate_any s hs.ok l C P v W h
    rw [hs.rate] at h1
    exact h1))
  have HLO := Lib.hid (fun (s : TfS) (hs : TfP S R Pp N2 F3 s) (l : List Pr) (C P : Nat) (v : Value) W (h : TfAt s l C P v W) => (show Calls Tryz.prog 56 #[.pointer (some ⟨C, 0, none⟩)] W fun e w' => e = .returned (.int .u64 Pp) ∧ W = w' from by
    have h1 := tfLoss_any s hs.ok l C P v W h
    rw [hs.loss] at h1
    exact h1))
  have HRF : Hid (∀ W, Calls Tryz.prog 55 #[.int .u64 S, .int .u64 R, .int .u64 Pp] W fun e w' => e = .returned (.int .u64 G) ∧ ∃ k, w' = W.drewN k) := Lib.hid (fun W => by
    have h1 := ref8Rate_any S R Pp (by omega) (by omega) (by omega) W
    rw [hG] at h1
    exact h1)
  obtain ⟨t1, t2, t3, _, _, _⟩ := mxs X 1 T1 hT1
  have t1' : (if (X : Int) < 1 then 1 else (X : Int)) = (T1 : Int) := t1
  have t2' : (if X < 1 then 1 else (X : Int)) = (T1 : Int) := t2
  have t3' : max (X : Int) 1 = (T1 : Int) := t3
  obtain ⟨l1, l2, l3, _, _, _⟩ := mxs h1 y1 LM hLM
  obtain ⟨K1, hK1⟩ : ∃ K, min LM G = K := ⟨_, rfl⟩
  have hF3' : max S K1 = F3 := by omega
  obtain ⟨k1, k2, k3, _, _, _⟩ := mns LM G K1 hK1
  obtain ⟨f1, f2, f3, _, _, _⟩ := mxs S K1 F3 hF3'
  have hSi : (S : Int) ≤ 1400 := by omega
  have hRi : (R : Int) ≤ 1049576 := by omega
  have hYi : (Y : Int) ≤ 1099511627776 := by omega
  have hTi : (T1 : Int) ≤ 1099511627776 := by omega
  have e6 : IntKind.u64.wrap (R : Int) = (R : Int) := IntWalk.u64_in _ (by omega)
  have e7 : IntKind.u64.wrap (S : Int) = (S : Int) := IntWalk.u64_in _ (by omega)
  have i1 : (T1 : Int) / 2 = (h1 : Int) := by omega
  have i2 : (T1 : Int).tdiv 2 = (h1 : Int) := by rw [Int.tdiv_eq_ediv_of_nonneg (by omega)]; exact i1
  have i3 : IntKind.u64.wrap ((Y : Int) * 17) = (Y : Int) * 17 := IntWalk.u64_in _ (by omega)
  have i4 : (Y : Int) * 17 / 20 = (y1 : Int) := by omega
  have i5 : ((Y : Int) * 17).tdiv 20 = (y1 : Int) := by rw [Int.tdiv_eq_ediv_of_nonneg (by omega)]; exact i4
  have i6 : IntKind.u64.wrap (y1 : Int) = (y1 : Int) := IntWalk.u64_in _ (by omega)
  have i7 : IntKind.i64.wrap (3 * (R : Int)) = 3 * (R : Int) := IntWalk.i64_in _ (by omega)
  have i8 : IntKind.i64.wrap (6 * (R : Int)) = 6 * (R : Int) := IntWalk.i64_in _ (by omega)
  clear hmx1 hmx2 hF1 hF2 hF3 hF3' hG hK1 hLM hT1 hh1 hy1 hm1 hm2 hX hY hP u3 u4 u5 v3 v4 v5 hT1b
  go_enter Tryz.func15, Tryz.ntmps15
  go_upto_region 4 with (go_at_call 18; refine (HBG.out _ (Below.refl _ _)).mono ?_; rintro e w0 ⟨rfl, hb0⟩)
  go_upto_region 5 with fail
  clear ha hJ e1 e2 e3 e4 e5 hX1 hX2 hY1 hY2 hP1 hP2 u1 u2 v1 v2 hS hR
  go_upto_region 7 with (first
    | (go_at_call 36; (with_reducible refine (HNW.out _).mono ?_); rintro e w1 ⟨C, P, v, rfl, htf, hc1, hp1, hv1, hb1⟩)
    | (go_at_call 38; (with_reducible refine (HH1.out _ _ _ _ htf).mono ?_); rintro e w2 ⟨rfl, s2, v2, hp2, ht2, hk2, hv2⟩))
  have hup1 : TfUp w C P v w1 := ⟨bel_trans hb0 hb1, Nat.le_trans hb0.size hc1, Nat.le_trans hb0.size hp1, fun g hg => Nat.le_trans hb0.size (hv1 g hg)⟩
  have HUP2 : Hid (TfUp w C P v2 w2) := Lib.hid (hup1.next hk2 hv2)
  clear htf hc1 hp1 hv1 hb0 hb1 hk2 hv2 hup1 HH1 HNW HBG
  go_upto_region 8 with (go_at_call 38; (with_reducible refine (HH2.out s2 hp2 _ _ _ _ ht2).mono ?_); rintro e w3 ⟨rfl, s3, v3, hp3, ht3, hk3, hv3⟩)
  have HUP3 : Hid (TfUp w C P v3 w3) := Lib.hid (HUP2.out.next hk3 hv3)
  clear hp2 ht2 hk3 hv3 HH2 HUP2
  go_upto_region 11 with (go_at_call 54; (with_reducible refine (HTP1.out s3 hp3 _ _ _ _ ht3).mono ?_); rintro e w4 ⟨rfl, hb4⟩)
  have ht4 := ht3.below hb4
  have HUP4 : Hid (TfUp w C P v3 w4) := Lib.hid (HUP3.out.below hb4)
  clear ht3 hb4 HTP1 HUP3 t1 t2 t3 t1' t2' t3'
  go_upto_region 12 with (go_at_call 38; (with_reducible refine (HH3.out s3 hp3 _ _ _ _ ht4).mono ?_); rintro e w5 ⟨rfl, s5, v5, hp5, ht5, hk5, hv5⟩)
  have HUP5 : Hid (TfUp w C P v5 w5) := Lib.hid (HUP4.out.next hk5 hv5)
  clear hp3 ht4 hk5 hv5 HH3 HUP4
  go_upto_region 13 with fail
  have HT5 := Lib.hid ht5
  have HP5 := Lib.hid hp5
  clear ht5 hp5 i1 i2 i3 i4 i5 i6 i7 i8 l1 l2 l3 hN2 hN3
  have HTPW := Lib.hid (HTP2.out s5 HP5.out _ _ _ _ HT5.out)
  have HRW : Hid (∀ W, Below w5.heap.size w5 W → Calls Tryz.prog 39 #[.pointer (some ⟨C, 0, none⟩)] W fun e w' => e = .returned (.int .u64 F3) ∧ W = w') := Lib.hid (fun W hW => HRA.out s5 HP5.out _ _ _ _ W (HT5.out.below hW))
  have HLW : Hid (∀ W n, Below w5.heap.size w5 W → Calls Tryz.prog 56 #[.pointer (some ⟨C, 0, none⟩)] (W.drewN n) fun e w' => e = .returned (.int .u64 Pp) ∧ W.drewN n = w') := Lib.hid (fun W n hW => HLO.out s5 HP5.out _ _ _ _ _ ((HT5.out.below hW).drewN n))
  clear HTP2 HRA HLO
  go_wp2_with (first
    | (go_at_call 54; (with_reducible refine HTPW.out.mono ?_); rintro e w6 ⟨rfl, hb6⟩)
    | (go_at_call 39; (with_reducible refine (HRW.out _ hb6).mono ?_); rintro e w7 ⟨rfl, rfl⟩)
    | (go_at_call 55; (with_reducible refine (HRF.out _).mono ?_); rintro e w8 ⟨rfl, n8, rfl⟩)
    | (go_at_call 56; (with_reducible refine (HLW.out _ _ hb6).mono ?_); rintro e w9 ⟨rfl, rfl⟩))
  go_ret
  exact ⟨rfl, bel_trans (bel_trans HUP5.out.b hb6) (bel_drewN _ _)⟩
end Go.Proofs.YtljlgbjbhokhlaaGreatDoor

namespace Go.Proofs.YtljlgbjbhokhlaaGreatDoor
open Go.ChangeShapes Go.WideShapes Go.ChangeAt Go.RowKit
set_option linter.unusedVariables false
set_option linter.unusedSimpArgs false

/-- What was told: none above 2^50 but the one that stands for no bound. -/
def toldOk (l : List Pr) : Prop := 0 < l.length ∧ l.length ≤ 2 ∧ ∀ p ∈ l, p.2 = 18446744073709551615 ∨ p.2 ≤ 1125899906842624
theorem toldOk.lt {l : List Pr} (h : toldOk l) : ∀ p ∈ l, p.2 < 18446744073709551616 := fun p hp => by have := h.2.2 p hp; omega
theorem maxNT_le (l : List Pr) : ∀ x, x ≤ 1125899906842624 → (∀ p ∈ l, p.2 = 18446744073709551615 ∨ p.2 ≤ 1125899906842624) → M.maxNT l x ≤ 1125899906842624 := by
  induction l with
  | nil => intro x hx _; exact hx
  | cons p l ih =>
    intro x hx h
    unfold M.maxNT
    rw [List.foldl_cons]
    refine ih _ ?_ (fun q hq => h q (by simp [hq]))
    have := h p (by simp)
    split <;> omega
theorem mulT_two (a : Nat) (h : a ≤ 4503599627370496) : M.mulT 2 a = 2 * a := by unfold M.mulT; rw [if_pos (by omega)]
set_option maxHeartbeats 16000000 in
set_option maxRecDepth 100000 in
theorem tfrcDoubles_walk (size r : Int) (s1 : -9223372036854775808 ≤ size) (s2 : size ≤ 9223372036854775807) (r1 : -9223372036854775808 ≤ r) (r2 : r ≤ 9223372036854775807) (px : Option Addr) (nl nc : Nat) (hnl : nl ≤ nc) (hnc : nc ≤ 9223372036854775807) (w : World) (hT : TabW w)
    (hcell : ∀ i, i < nl → i < 20 → ∃ (b o x : Nat), px = some ⟨b, o, none⟩ ∧ b < w.heap.size ∧ x < 18446744073709551616 ∧ w.cell? ⟨b, o + i, none⟩ = some (.int .u64 x)) :
    Calls Tryz.prog 8 #[.int .i64 size, .int .i64 r, .slice px nl nc] w fun e w' => e = .returned (.bool true) ∧ Below w.heap.size w w' := by
  have HBG : Hid (∀ W, Below w.heap.size w W → Calls Tryz.prog 18 #[] W fun e w' => e = .returned (.bool true) ∧ Below W.heap.size W w') := Lib.hid (fun W hb => begun8_any W (hT.below hb))
  have HC := Lib.hid hcell
  clear hT hcell
  obtain ⟨a, ha, a1, a2, J, hJ, hJ3⟩ := mod_atL size 1400 (by decide)
  obtain ⟨S, hS⟩ : ∃ S : Nat, 1 + (J : Int) = (S : Int) := ⟨1 + J, by omega⟩
  have hS1 : 1 ≤ S := by omega
  have hS2 : S ≤ 1400 := by omega
  obtain ⟨m1, hm1⟩ : ∃ m, min r 16777216 = m := ⟨_, rfl⟩
  obtain ⟨m2, hm2⟩ : ∃ m, max 0 m1 = m := ⟨_, rfl⟩
  obtain ⟨u1, u2, u3, u4, u5⟩ := mni r 16777216 m1 hm1
  obtain ⟨v1, v2, v3, v4, v5⟩ := mxi 0 m1 m2 hm2
  obtain ⟨R, hR⟩ : ∃ R : Nat, 1000 + m2 = (R : Int) := ⟨(1000 + m2).toNat, by omega⟩
  have hR1 : 1000 ≤ R := by omega
  have hR2 : R ≤ 16778216 := by omega
  have HNW := Lib.hid (fun W => tfNew_any S hS1 hS2 W)
  have HH1 := Lib.hid (fun (C P : Nat) (v : Value) W (h : TfAt ⟨S, 64 * S, 0, 0, 0, false, 0, false⟩ [(0, 18446744073709551615)] C P v W) => (show Calls Tryz.prog 38 #[.pointer (some ⟨C, 0, none⟩), .int .i64 0, .int .i64 R, .int .u64 1099511627776, .int .u64 0, .bool false] W _ from tfJ_first S R hS1 hS2 (by omega) (by omega) 1099511627776 (by omega) C P v W h))
  obtain ⟨t0, ht0⟩ : ∃ t0 : TfS, (⟨S, 64 * S, 0, 0, 0, false, 0, false⟩ : TfS) = t0 := ⟨_, rfl⟩
  rw [ht0] at HNW HH1
  clear ht0
  obtain ⟨I, hI⟩ : ∃ I, M.tfInit S R = I := ⟨_, rfl⟩
  have hIb : I ≤ 358400000 := by
    rw [← hI]
    unfold M.tfInit
    have h1 : 64 * min (4 * S) (max (2 * S) 4380) ≤ 358400 := by
      have : min (4 * S) (max (2 * S) 4380) ≤ 4 * S := Nat.min_le_left _ _
      generalize min (4 * S) (max (2 * S) 4380) = z at *
      omega
    generalize 64 * min (4 * S) (max (2 * S) 4380) = z at *
    rw [Nat.div_le_iff_le_mul_add_pred (by omega)]
    have h3 : 358400000000 ≤ R * 358400000 := by omega
    omega
  have HIe := Lib.hid hI
  obtain ⟨F, hF⟩ : ∃ F, max I S = F := ⟨_, rfl⟩
  have hFb : F ≤ 358400000 ∧ I ≤ F ∧ S ≤ F := by omega
  obtain ⟨hF1, hF2, hF3⟩ := hFb
  rw [hI, hF] at HH1
  have HRA := Lib.hid (fun (rt : Nat) (d : Int) (s : TfS) (hs : TfP S R 0 d rt s) (l : List Pr) (C P : Nat) (v : Value) W (h : TfAt s l C P v W) => (show Calls Tryz.prog 39 #[.pointer (some ⟨C, 0, none⟩)] W fun e w' => e = .returned (.int .u64 rt) ∧ W = w' from by
    have h1 := tfRate_any s hs.ok l C P v W h
    rw [hs.rate] at h1
    exact h1))
  have HRT := Lib.hid (fun (rt : Nat) (d : Int) (s : TfS) (hs : TfP S R 0 d rt s) (l : List Pr) (C P : Nat) (v : Value) W (h : TfAt s l C P v W) => (show Calls Tryz.prog 42 #[.pointer (some ⟨C, 0, none⟩)] W fun e w' => e = .returned (.int .i64 R) ∧ W = w' from by
    have h1 := tfRtt_any s hs.ok l C P v W h
    rw [hs.rtt] at h1
    exact h1))
  have hSi : (S : Int) ≤ 1400 := by omega
  have hRi : (R : Int) ≤ 16778216 := by omega
  have e7 : IntKind.u64.wrap (S : Int) = (S : Int) := IntWalk.u64_in _ (by omega)
  have HF := Lib.hid hF
  clear hm1 hm2 u3 u4 u5 v3 v4 v5 hI hF
  go_enter Tryz.func8, Tryz.ntmps8
  go_upto_region 4 with (go_at_call 18; refine (HBG.out _ (Below.refl _ _)).mono ?_; rintro e w0 ⟨rfl, hb0⟩)
  go_upto_region 5 with fail
  clear ha hJ u1 u2 v1 v2 hS hR
  go_upto_region 7 with (first
    | (go_at_call 36; (with_reducible refine (HNW.out _).mono ?_); rintro e w1 ⟨C, P, v, rfl, htf, hc1, hp1, hv1, hb1⟩)
    | (go_at_call 38; (with_reducible refine (HH1.out _ _ _ _ htf).mono ?_); rintro e w2 ⟨rfl, s2, v2, hp2, ht2, hk2, hv2⟩))
  have hup1 : TfUp w C P v w1 := ⟨bel_trans hb0 hb1, Nat.le_trans hb0.size hc1, Nat.le_trans hb0.size hp1, fun g hg => Nat.le_trans hb0.size (hv1 g hg)⟩
  have HUP2 : Hid (TfUp w C P v2 w2) := Lib.hid (hup1.next hk2 hv2)
  clear htf hc1 hp1 hv1 hb0 hb1 hk2 hv2 hup1 HH1 HNW HBG
  go_upto_region 9 with (go_at_call 39; (with_reducible refine (HRA.out F 0 s2 hp2 _ _ _ _ _ ht2).mono ?_); rintro e w3 ⟨rfl, rfl⟩)
  have HI2 : Hid (TfP S R 0 0 F s2 ∧ toldOk [(0, 18446744073709551615), (0, 1099511627776)] ∧ TfAt s2 [(0, 18446744073709551615), (0, 1099511627776)] C P v2 w2) := Lib.hid ⟨hp2, ⟨by simp, by simp, by simp⟩, ht2⟩
  clear hp2 ht2
  go_wp2
  go_loopw [9, 11] (fun nv iv wr => ∃ (i : Nat) (now : Int) (rt : Nat) (s : TfS) (l : List Pr) (v : Value), iv = .int .i64 (i : Int) ∧ nv = .int .i64 now ∧ i ≤ 20 ∧ 0 ≤ now ∧ now ≤ (i : Int) * 16778217 ∧ S ≤ rt ∧ rt ≤ 4503599627370496 ∧ Hid (TfP S R 0 now rt s ∧ toldOk l ∧ TfAt s l C P v wr) ∧ Hid (TfUp w C P v wr)) (fun _ iv _ => 20 - (intOf iv).toNat)
  case atStart => exact ⟨0, 0, F, s2, _, v2, rfl, rfl, by omega, by omega, by omega, by omega, by omega, HI2, HUP2⟩
  case round =>
    clear HI2 HUP2
    obtain ⟨i, now, rt, s, l, v', rfl, rfl, hi, n0, n1, t1, t2, hI, hU⟩ := hrel
    by_cases hlt : i < nl ∧ i < 20
    · obtain ⟨hl1, hl2⟩ := hlt
      have hd1 : decide ((i : Int) < (nl : Int)) = true := decide_eq_true (by omega)
      have hd2 : decide ((i : Int) < 20) = true := decide_eq_true (by omega)
      obtain ⟨b, o, x, rfl, hbl, hxb, hx⟩ := HC.out i hl1 hl2
      have hx0 := hx
      rw [← hU.out.b.cell (p := ⟨b, o + i, none⟩) hbl] at hx
      obtain ⟨hP, hL, hA⟩ := hI.out
      obtain ⟨X, hX⟩ : ∃ X, min x 1125899906842624 = X := ⟨_, rfl⟩
      have hXb : X ≤ 1125899906842624 := by omega
      obtain ⟨m, hm⟩ : ∃ m, M.maxNT l X = m := ⟨_, rfl⟩
      have hmb : m ≤ 1125899906842624 := by rw [← hm]; exact maxNT_le l X hXb hL.2.2
      obtain ⟨N, hN⟩ : ∃ N, now + ((R : Int) + 1) = N := ⟨_, rfl⟩
      have hNb : 0 ≤ N ∧ N ≤ ((i + 1 : Nat) : Int) * 16778217 := by omega
      obtain ⟨hN1, hN2⟩ := hNb
      have HD := Lib.hid (tfJ_dbl S R now rt (by omega) s hP N (by omega) (by omega) x hxb X hX l (by have := hL.2.1; omega) hL.1 hL.lt C P v' wr hA)
      rw [hm, HIe.out, mulT_two rt t2, mulT_two m (by omega)] at HD
      obtain ⟨Q, hQ⟩ : ∃ Q, max (max (min (2 * rt) (2 * m)) I) S = Q := ⟨_, rfl⟩
      rw [hQ] at HD
      have hQ1 : Q ≤ max (2 * rt) F := by omega
      have hQ2 : S ≤ Q := by omega
      have hQ3 : Q ≤ 4503599627370496 := by omega
      obtain ⟨W2, hW2⟩ : ∃ z, max (2 * rt) F = z := ⟨_, rfl⟩
      obtain ⟨f1, f2, f3, _, _, _⟩ := mxs (2 * rt) F W2 hW2
      have f1' : (if 2 * (rt : Int) < (F : Int) then (F : Int) else 2 * (rt : Int)) = (W2 : Int) := by rw [← f1]; split <;> split <;> omega
      have f3' : max (2 * (rt : Int)) (F : Int) = (W2 : Int) := by omega
      have g1 : decide ((W2 : Int) < (Q : Int)) = false := decide_eq_false (by omega)
      have g1' : ¬ W2 < Q := by omega
      have g2' : ¬ Q < S := by omega
      have f4' : (if 2 * rt < F then (F : Int) else 2 * (rt : Int)) = (W2 : Int) := by rw [← f1]; split <;> split <;> omega
      have g2 : decide ((Q : Int) < (S : Int)) = false := decide_eq_false (by omega)
      have g3 : decide ((R : Int) < (R : Int)) = false := decide_eq_false (by omega)
      have i9 : IntKind.u64.wrap (2 * (rt : Int)) = 2 * (rt : Int) := IntWalk.u64_in _ (by omega)
      have HN2 : Hid (∀ s' v' W, TfP S R 0 N Q s' → TfAt s' [(N, m)] C P v' W → Calls Tryz.prog 38 #[.pointer (some ⟨C, 0, none⟩), .int .i64 N, .int .i64 R, .int .u64 x, .int .u64 0, .bool true] W fun e w' => e = .returned (.tuple #[]) ∧
          ∃ s2 v2, TfP S R 0 N Q s2 ∧ TfAt s2 [(N, M.maxNT [(N, m)] X)] C P v2 w' ∧ Kept (C :: P :: own v') W w' ∧ (v2.ownBlock = v'.ownBlock ∨ ∃ g, v2.ownBlock = some g ∧ W.heap.size ≤ g)) := Lib.hid (fun s' v' W hs' hA' => by
        have h1 := tfJ_none S R N Q (by omega) s' hs' N (by omega) (by omega) x hxb X hX [(N, m)] (by simp) (by simp) (by simp; omega) C P v' W hA'
        rw [show max Q S = Q by omega] at h1
        exact h1)
      have HOK : Hid (toldOk [(N, M.maxNT [(N, m)] X)]) := Lib.hid ⟨by simp, by simp, fun p hp => by
        have : p = (N, M.maxNT [(N, m)] X) := by simpa using hp
        subst this
        right
        exact maxNT_le _ X hXb (fun q hq => by have : q = (N, m) := by simpa using hq
                                               subst this; exact .inr hmb)⟩
      have HRW := Lib.hid (HRA.out rt now s hP l C P v' wr hA)
      have hxc : Hid (∀ W, TfUp w C P v' W ∨ Below w.heap.size w W → W.cell? ⟨b, o + i, none⟩ = some (.int .u64 x)) := Lib.hid (fun W hW => by
        rcases hW with h | h
        · rw [h.b.cell (p := ⟨b, o + i, none⟩) hbl]; exact hx0
        · rw [h.cell (p := ⟨b, o + i, none⟩) hbl]; exact hx0)
      have hrti : (rt : Int) ≤ 4503599627370496 := by omega
      clear hP hL hA hX hm hQ hW2 hI hx0 hQ1
      obtain ⟨wR, rfl⟩ : ∃ wR : World, wR = wr := ⟨_, rfl⟩
      go_upto_region 13 with (go_at_call 39; (with_reducible refine HRW.out.mono ?_); rintro e w4 ⟨rfl, rfl⟩)
      go_upto_region 15 with (go_at_call 38; (with_reducible refine HD.out.mono ?_); rintro e w5 ⟨rfl, s5, v5, hp5, ht5, hk5, hv5⟩)
      have HU5 : Hid (TfUp w C P v5 w5) := Lib.hid (hU.out.next hk5 hv5)
      have HP5 := Lib.hid hp5
      have HT5 := Lib.hid ht5
      have hx5 := hxc.out w5 (.inr HU5.out.b)
      have HR5 := Lib.hid (HRA.out Q N s5 hp5 _ C P v5 w5 ht5)
      have HT6 := Lib.hid (HRT.out Q N s5 hp5 _ C P v5 w5 ht5)
      have HN5 := Lib.hid (HN2.out s5 v5 w5 hp5 ht5)
      clear hp5 ht5 hk5 hv5 HD HRW hx hN
      go_upto_region 18 with (first
        | (go_at_call 39; (with_reducible refine HR5.out.mono ?_); rintro e w6 ⟨rfl, rfl⟩)
        | (go_at_call 42; (with_reducible refine HT6.out.mono ?_); rintro e w6 ⟨rfl, rfl⟩))
      go_upto_region 19 with (go_at_call 38; (with_reducible refine HN5.out.mono ?_); rintro e w7 ⟨rfl, s7, v7, hp7, ht7, hk7, hv7⟩)
      have HU7 : Hid (TfUp w C P v7 w7) := Lib.hid (HU5.out.next hk7 hv7)
      have HR7 := Lib.hid (HRA.out Q N s7 hp7 _ C P v7 w7 ht7)
      have HI7 : Hid (TfP S R 0 N Q s7 ∧ toldOk [(N, M.maxNT [(N, m)] X)] ∧ TfAt s7 [(N, M.maxNT [(N, m)] X)] C P v7 w7) := Lib.hid ⟨hp7, HOK.out, ht7⟩
      clear hp7 ht7 hk7 hv7 hx5
      go_wp2_with (go_at_call 39; (with_reducible refine HR7.out.mono ?_); rintro e w8 ⟨rfl, rfl⟩)
      refine ⟨⟨i + 1, N, Q, s7, _, v7, by go_num, rfl, by omega, by omega, hN2, by omega, by omega, HI7, HU7⟩, ?_⟩
      simp [intOf]; omega
    · by_cases hm : i < nl
      · have hd1 : decide ((i : Int) < (nl : Int)) = true := decide_eq_true (by omega)
        have hd2 : decide ((i : Int) < 20) = false := decide_eq_false (by omega)
        go_wp2
        go_ret
        exact ⟨rfl, hU.out.b⟩
      · have hd1 : decide ((i : Int) < (nl : Int)) = false := decide_eq_false (by omega)
        go_wp2
        go_ret
        exact ⟨rfl, hU.out.b⟩
end Go.Proofs.YtljlgbjbhokhlaaGreatDoor
