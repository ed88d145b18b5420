/-
  What the laid table of the weights says.
  Rows of numbers, and of pairs of numbers, that came in as arguments, opened.
  The law WinFire, walked.
  The law WinAvoid, walked.
  The law WinAvoid, walked (its walk).
  Package win: a Hear of one that is lost.
  The law WinHalf, walked.
-/
import Derived.Test.YtljlgbjbhokhlaaGreatDoorIvalA
import Derived.Test.YtljlgbjbhokhlaaGreatDoorRows
import Derived.Lib.LaidU8
import Derived.Lib.LaidTab
import Derived.MakeChecks
import Derived.OpenShut
import Derived.Test.YtljlgbjbhokhlaaGreatDoorIntR
import Derived.Test.YtljlgbjbhokhlaaGreatDoorVecB
import Derived.ChangeSlices
import Derived.ChangeSame
import Derived.Deep.Slices
import Derived.Deep.SlicePairs
import Derived.Test.YtljlgbjbhokhlaaGreatDoorLfW1
import Derived.Test.YtljlgbjbhokhlaaGreatDoorBegun8
import Derived.Test.YtljlgbjbhokhlaaGreatDoorLfHd
namespace Go.Proofs.YtljlgbjbhokhlaaGreatDoor
open Go.ChangeShapes Go.WideShapes Go.ChangeAt Go.RowKit
set_option linter.unusedVariables false
set_option linter.unusedSimpArgs false

theorem tabW_laid {W : World} {l : List (String × DataW Unit)} (h : laidMet Tryz.prog l W) (hm : ("muleteer/ival.weights", (Rows.laid_muleteer_ival_weights : DataW Unit)) ∈ l) : TabW W := by
  obtain ⟨ps, h, _⟩ := h
  obtain ⟨g, t, cs, fuel, p, hg, ht, hvar, hd⟩ := Lib.LaidVars_reads h _ _ hm
  rw [show (Rows.laid_muleteer_ival_weights : DataW Unit) = Lib.tabData .u64 [5, 5, 5, 5, 4, 3, 2, 1] by kernel_rfl] at hd
  have e : Tryz.prog.globalNamed "muleteer/ival.weights" = some 2 := by kernel_rfl
  obtain rfl := Option.some.inj (e.symm.trans hg)
  obtain rfl : t = 227 := (Option.some.inj ((show (Tryz.prog.globals[2]?).map (·.type) = some 227 by kernel_rfl).symm.trans ht)).symm
  have hc := Lib.cells_of_tab Tryz.underlying227 Tryz.underlying22 (by kernel_rfl) (by kernel_rfl) hd
  obtain ⟨cl⟩ := cs
  simp only at hc
  subst hc
  intro i hi
  have h1 := World.var?_cell e hvar i
  rw [h1]
  obtain rfl | rfl | rfl | rfl | rfl | rfl | rfl | rfl : i = 0 ∨ i = 1 ∨ i = 2 ∨ i = 3 ∨ i = 4 ∨ i = 5 ∨ i = 6 ∨ i = 7 := by omega
  all_goals rfl
end Go.Proofs.YtljlgbjbhokhlaaGreatDoor

namespace Go.Proofs.YtljlgbjbhokhlaaGreatDoor
open Go.ChangeShapes Go.WideShapes Go.Deep Go.RowKit
set_option linter.unusedVariables false

theorem addr_plain {w : World} {a : Addr} {v : Value} (h : w.cell? (a.add 0) = some v) : ∃ b o, a = ⟨b, o, none⟩ ∧ b < w.heap.size := by
  have e : a.add 0 = a := by unfold Addr.add; split <;> simp_all
  rw [e] at h
  have hs : a.spot = none := by
    unfold World.cell? at h
    split at h
    · cases hsp : a.spot with
      | none => rfl
      | some x => rw [hsp] at h; simp at h
    · cases h
  have hb := World.block_lt_of_cell? w a h
  obtain ⟨b, o, sp⟩ := a
  simp only at hs
  subst hs
  exact ⟨b, o, rfl, hb⟩
theorem add_plain (b o k : Nat) : (⟨b, o, none⟩ : Addr).add k = ⟨b, o + k, none⟩ := by unfold Addr.add; split <;> simp_all

theorem open_row {H : Type} {enc : TypeId × Value → H} {W : World} {t e : TypeId} {k : IntKind} {p : Option Addr} {n c : Nat} {d : DataW H} {q : List MemPlace}
    (ht : Tryz.prog.underlying t = some (.slice e)) (he : Tryz.prog.underlying e = some (.int k)) (hc : Tryz.prog.cellsOf e = 1)
    (h : DataW.Trod enc Tryz.prog W 0 (fun _ => true) true t (.slice p n c) d q) :
    n ≤ c ∧ c ≤ 9223372036854775807 ∧ ∃ zs : List Int, n ≤ zs.length ∧ (∀ z ∈ zs, (Lit.int k z).wf = true) ∧ ∀ i, i < n → ∃ b o, p = some ⟨b, o, none⟩ ∧ b < W.heap.size ∧ W.cell? ⟨b, o + i, none⟩ = some (.int k (zs.getD i 0)) := by
  obtain ⟨fuel, hf⟩ := h
  rcases open_ints ht he hc hf with ⟨hcs, hx⟩ | ⟨a, len', cap', zs, hcs, _, hl, hm, hz, hx, hcell, hwz⟩
  · simp [Value.cells] at hcs
    obtain ⟨rfl, rfl, rfl⟩ := hcs
    exact ⟨by omega, by omega, [], by simp, by simp, fun i hi => absurd hi (Nat.not_lt_zero i)⟩
  · simp [Value.cells] at hcs
    obtain ⟨rfl, rfl, rfl⟩ := hcs
    simp only [if_true] at hz
    have hm' : c ≤ 9223372036854775807 := hm
    refine ⟨hl, hm', zs, by omega, hwz, fun i hi => ?_⟩
    obtain ⟨b, o, rfl, hb⟩ := addr_plain (hcell 0 (by omega))
    have h1 := hcell i (by omega)
    rw [add_plain] at h1
    exact ⟨b, o, rfl, hb, h1⟩

theorem getD_take_lt {α : Type} (l : List α) (d : α) (m i : Nat) (h : i < m) : (l.take m).getD i d = l.getD i d := by
  rw [List.getD_eq_getElem?_getD, List.getD_eq_getElem?_getD, List.getElem?_take, if_pos h]
theorem getD_prop {α : Type} {P : α → Prop} {l : List α} {d : α} (h : ∀ z ∈ l, P z) (hd : P d) (i : Nat) : P (l.getD i d) := by
  rw [List.getD_eq_getElem?_getD]
  by_cases hi : i < l.length
  · rw [List.getElem?_eq_getElem hi]; exact h _ (List.getElem_mem _)
  · rw [List.getElem?_eq_none (by omega)]; exact hd

/-- Its first m numbers, signed. -/
theorem open_i64s {H : Type} {enc : TypeId × Value → H} {W : World} {t e : TypeId} {p : Option Addr} {n c : Nat} {d : DataW H} {q : List MemPlace} (m : Nat) (hm : m ≤ 1073741824)
    (ht : Tryz.prog.underlying t = some (.slice e)) (he : Tryz.prog.underlying e = some (.int .i64)) (hc : Tryz.prog.cellsOf e = 1)
    (h : DataW.Trod enc Tryz.prog W 0 (fun _ => true) true t (.slice p n c) d q) :
    n ≤ c ∧ c ≤ 9223372036854775807 ∧ ∃ l : List Int, l.length = min n m ∧ I64At W (.slice p l.length c) l := by
  obtain ⟨h1, h2, zs, h3, h4, h5⟩ := open_row ht he hc h
  have hl : (zs.take (min n m)).length = min n m := by rw [List.length_take]; omega
  refine ⟨h1, h2, zs.take (min n m), hl, ⟨p, c, rfl, by omega, h2, fun i hi => ?_⟩, by omega, fun i => ?_⟩
  · rw [getD_take_lt _ _ _ _ (by omega)]
    exact h5 i (by omega)
  · exact getD_prop (P := fun z => -9223372036854775808 ≤ z ∧ z ≤ 9223372036854775807) (fun z hz => bounds_i64 (h4 z (List.mem_of_mem_take hz))) (by decide) i
/-- All its numbers, signed. -/
theorem open_i64w {H : Type} {enc : TypeId × Value → H} {W : World} {t e : TypeId} {p : Option Addr} {n c : Nat} {d : DataW H} {q : List MemPlace}
    (ht : Tryz.prog.underlying t = some (.slice e)) (he : Tryz.prog.underlying e = some (.int .i64)) (hc : Tryz.prog.cellsOf e = 1)
    (h : DataW.Trod enc Tryz.prog W 0 (fun _ => true) true t (.slice p n c) d q) :
    n ≤ c ∧ c ≤ 9223372036854775807 ∧ ∃ l : List Int, l.length = n ∧ ∀ i, i < l.length → ∃ b o, p = some ⟨b, o, none⟩ ∧ b < W.heap.size ∧ W.cell? ⟨b, o + i, none⟩ = some (.int .i64 (l.getD i 0)) := by
  obtain ⟨h1, h2, zs, h3, h4, h5⟩ := open_row ht he hc h
  have hl : (zs.take n).length = n := by rw [List.length_take]; omega
  refine ⟨h1, h2, zs.take n, hl, fun i hi => ?_⟩
  rw [getD_take_lt _ _ _ _ (by omega)]
  exact h5 i (by omega)
/-- Its first m numbers, without a sign. -/
theorem open_u64s {H : Type} {enc : TypeId × Value → H} {W : World} {t e : TypeId} {p : Option Addr} {n c : Nat} {d : DataW H} {q : List MemPlace} (m : Nat) (hm : m ≤ 1073741824)
    (ht : Tryz.prog.underlying t = some (.slice e)) (he : Tryz.prog.underlying e = some (.int .u64)) (hc : Tryz.prog.cellsOf e = 1)
    (h : DataW.Trod enc Tryz.prog W 0 (fun _ => true) true t (.slice p n c) d q) :
    n ≤ c ∧ c ≤ 9223372036854775807 ∧ ∃ l : List Nat, l.length = min n m ∧ U64At W (.slice p l.length c) l := by
  obtain ⟨h1, h2, zs, h3, h4, h5⟩ := open_row ht he hc h
  have hb : ∀ i, 0 ≤ zs.getD i 0 ∧ zs.getD i 0 ≤ 18446744073709551615 := fun i => getD_prop (P := fun z => 0 ≤ z ∧ z ≤ 18446744073709551615) (fun z hz => bounds_u64 (h4 z hz)) (by decide) i
  have hl : ((zs.take (min n m)).map Int.toNat).length = min n m := by rw [List.length_map, List.length_take]; omega
  have hg : ∀ i, i < min n m → ((((zs.take (min n m)).map Int.toNat).getD i 0 : Nat) : Int) = zs.getD i 0 := fun i hi => by
    have h6 := hb i
    rw [List.getD_eq_getElem?_getD] at h6
    rw [List.getD_eq_getElem?_getD, List.getD_eq_getElem?_getD, List.getElem?_map, List.getElem?_take, if_pos hi]
    have hz : i < zs.length := by omega
    rw [List.getElem?_eq_getElem hz] at h6 ⊢
    simp only [Option.getD_some, Option.map_some] at h6 ⊢
    omega
  refine ⟨h1, h2, (zs.take (min n m)).map Int.toNat, hl, ⟨p, c, rfl, by omega, h2, fun i hi => ?_⟩, by omega, fun i => ?_⟩
  · rw [hg i (by omega)]
    exact h5 i (by omega)
  · by_cases hi : i < min n m
    · have h6 := hb i
      have h7 := hg i hi
      omega
    · rw [List.getD_eq_getElem?_getD, List.getElem?_eq_none (by omega)]
      decide

/-- A row of pairs of numbers, whole. -/
theorem open_pairs {H : Type} {enc : TypeId × Value → H} {W : World} {t e : TypeId} {f0 f1 : Field} {p : Option Addr} {n c : Nat} {d : DataW H} {q : List MemPlace}
    (ht : Tryz.prog.underlying t = some (.slice e)) (he : Tryz.prog.underlying e = some (.struct #[f0, f1])) (ce : Tryz.prog.cellsOf e = 2) (o0 : f0.offset = 0) (o1 : f1.offset = 1) (c0 : Tryz.prog.cellsOf f0.type = 1) (c1 : Tryz.prog.cellsOf f1.type = 1)
    (u0 : Tryz.prog.underlying f0.type = some (.int .i64)) (u1 : Tryz.prog.underlying f1.type = some (.int .i64))
    (h : DataW.Trod enc Tryz.prog W 0 (fun _ => true) true t (.slice p n c) d q) :
    n ≤ c ∧ c ≤ 9223372036854775807 ∧ ∃ l : List Cel, l.length = n ∧ (∀ x ∈ l, -9223372036854775808 ≤ x.2 ∧ x.2 ≤ 9223372036854775807) ∧
      ∀ i, i < l.length → ∃ b o, p = some ⟨b, o, none⟩ ∧ b < W.heap.size ∧ W.cell? ⟨b, o + i * 2, none⟩ = some (.int .i64 (l.getD i (0, 0)).1) ∧ W.cell? ⟨b, o + i * 2 + 1, none⟩ = some (.int .i64 (l.getD i (0, 0)).2) := by
  obtain ⟨fuel, hf⟩ := h
  rcases open_slice_pairs ht he ce o0 o1 c0 c1 hf with ⟨hcs, hx⟩ | ⟨a, len, cap, m, n', V0, V1, D0, D1, P0, P1, hcs, _, hl, hm, hmm, hx, hi⟩
  · simp [Value.cells] at hcs
    obtain ⟨rfl, rfl, rfl⟩ := hcs
    exact ⟨by omega, by omega, [], rfl, by simp, fun i hi => absurd hi (Nat.not_lt_zero i)⟩
  · simp [Value.cells] at hcs
    obtain ⟨rfl, rfl, rfl⟩ := hcs
    have hm' : c ≤ 9223372036854775807 := hm
    simp only [if_true] at hmm
    have key : ∀ i, i < n → ∃ x : Cel, V0 i = .int .i64 x.1 ∧ V1 i = .int .i64 x.2 ∧ (-9223372036854775808 ≤ x.2 ∧ x.2 ≤ 9223372036854775807) := by
      intro i hin
      obtain ⟨_, _, k0, k1⟩ := hi i (by omega)
      obtain ⟨z0, hz0, _, _⟩ := DataW.trod_int u0 k0
      obtain ⟨z1, hz1, _, hw1⟩ := DataW.trod_int u1 k1
      simp at hz0 hz1
      exact ⟨(z0, z1), hz0, hz1, bounds_i64 hw1⟩
    have hlist : ∀ m', m' ≤ n → ∃ l : List Cel, l.length = m' ∧ (∀ x ∈ l, -9223372036854775808 ≤ x.2 ∧ x.2 ≤ 9223372036854775807) ∧ ∀ i, i < m' → V0 i = .int .i64 (l.getD i (0, 0)).1 ∧ V1 i = .int .i64 (l.getD i (0, 0)).2 := by
      intro m'
      induction m' with
      | zero => exact fun _ => ⟨[], rfl, by simp, fun i hi => absurd hi (Nat.not_lt_zero i)⟩
      | succ m' ih =>
        intro hmn
        obtain ⟨l, hl1, hl2, hl3⟩ := ih (by omega)
        obtain ⟨x, hx0, hx1, hx2⟩ := key m' (by omega)
        refine ⟨l ++ [x], by simp [hl1], fun y hy => ?_, fun i hi' => ?_⟩
        · rcases List.mem_append.1 hy with h8 | h8
          · exact hl2 y h8
          · rw [List.mem_singleton.1 h8]; exact hx2
        · by_cases e' : i < m'
          · have h9 := hl3 i e'
            rw [List.getD_eq_getElem?_getD] at h9 ⊢
            rwa [List.getElem?_append_left (by omega)]
          · obtain rfl : i = m' := by omega
            rw [List.getD_eq_getElem?_getD, List.getElem?_append_right (by omega), hl1]
            simpa using ⟨hx0, hx1⟩
    obtain ⟨l, hl1, hl2, hl3⟩ := hlist n (Nat.le_refl _)
    refine ⟨hl, hm', l, hl1, hl2, fun i hi' => ?_⟩
    have h0 := (hi 0 (by omega)).1
    rw [Nat.zero_mul] at h0
    obtain ⟨b, o, rfl, hb⟩ := addr_plain h0
    obtain ⟨h6, h7, _, _⟩ := hi i (by omega)
    obtain ⟨h8, h9⟩ := hl3 i (by omega)
    rw [add_plain] at h6 h7
    rw [h8] at h6
    rw [h9] at h7
    exact ⟨b, o, rfl, hb, h6, h7⟩
end Go.Proofs.YtljlgbjbhokhlaaGreatDoor

namespace Go.Proofs.YtljlgbjbhokhlaaGreatDoor
open Go.ChangeShapes Go.WideShapes Go.ChangeAt Go.RowKit
set_option linter.unusedVariables false
set_option linter.unusedSimpArgs false

theorem kb2 {w W W' : World} {C D : Nat} (h : Below w.heap.size w W) (k : Kept [C, D] W W') (hC : w.heap.size ≤ C) (hD : w.heap.size ≤ D) : Below w.heap.size w W' := h.trans (k.below h.size (by intro x hx; simp at hx; omega))
theorem mod_at9 (x m : Int) (hm : 0 < m) : ∃ a, x.tmod m = a ∧ -m < a ∧ a < m ∧ ∃ j : Nat, (a + m).tmod m = (j : Int) ∧ (j : Int) < m := by
  refine ⟨x.tmod m, rfl, ?_⟩
  have h : -m < x.tmod m ∧ x.tmod m < m := by
    by_cases h : 0 ≤ x
    · rw [Int.tmod_eq_emod_of_nonneg h]
      have := Int.emod_nonneg x (show m ≠ 0 by omega)
      have := Int.emod_lt_of_pos x hm
      omega
    · have e : x.tmod m = -((-x).tmod m) := by rw [Int.neg_tmod]; omega
      rw [e, Int.tmod_eq_emod_of_nonneg (by omega)]
      have := Int.emod_nonneg (-x) (show m ≠ 0 by omega)
      have := Int.emod_lt_of_pos (-x) hm
      omega
  refine ⟨h.1, h.2, ((x.tmod m + m).tmod m).toNat, ?_, ?_⟩
  · have : 0 ≤ (x.tmod m + m).tmod m := Int.tmod_nonneg _ (by omega)
    omega
  · have h1 : 0 ≤ (x.tmod m + m).tmod m := Int.tmod_nonneg _ (by omega)
    have h2 : (x.tmod m + m).tmod m < m := by
      rw [Int.tmod_eq_emod_of_nonneg (by omega)]
      exact Int.emod_lt_of_pos _ hm
    omega
/-- Behind the first one that was got. -/
def WinS.four : WinS := ⟨4, 1000000, 0, 0, 1, true, 0, false, 0, false⟩
theorem winFirst (X : Int) (hX : 0 ≤ X) (pG : Option Addr) (cG : Nat) (C D : Nat) (w : World) (h : WinAt (WinS.init.sent 1 (M.winDue 0 RttS.zero.rto)) RttS.zero C D w) :
    Calls Tryz.prog 32 #[.pointer (some ⟨C, 0, none⟩), .agg #[.slice pG 1 cG, .slice none 0 0, .slice none 0 0, .int .i64 0, .int .i64 X], .int .i64 0] w fun e w' => e = .returned (.tuple #[]) ∧ WinAt WinS.four (RttS.zero.sample X) C D w' ∧ Kept [C, D] w w' := by
  have h1 := winHear_any (WinS.init.sent 1 (M.winDue 0 RttS.zero.rto)) ⟨4, 1000000, 0, 0, 1, true, 0, false, 3000000, true⟩ ⟨by decide, by decide, by decide, by decide, by decide, by decide⟩ RttS.zero (RttS.zero.sample X) RttS.ok_zero 1 0 (by decide) (by decide) ⟨by decide, by decide, by decide, by decide, by decide, by decide⟩ (by decide) rfl ⟨by decide, by decide, by decide, by decide, by decide, by decide⟩
    pG none cG 0 (.slice none 0 0) 0 X 0 (by decide) (by unfold RttS.heard; rw [if_pos hX]) false C D w h (.inl ⟨rfl, rfl, by decide⟩)
  exact h1
theorem winFire_ok (s : WinS) (hs : s.ok) : s.fire.ok := by
  obtain ⟨⟨a0, a1⟩, ⟨b0, b1⟩, _, _, e, f⟩ := hs
  exact ⟨(by decide : (1 : Int) ≤ 1 ∧ (1 : Int) ≤ 1099511627776), by unfold WinS.fire WinS.halve WinS.stop; simp only; omega, (by decide : (0 : Int) ≤ 0 ∧ (0 : Int) ≤ 1099511627776), (by decide : (0 : Int) ≤ 0 ∧ (0 : Int) ≤ 1099511627776), e, e⟩
end Go.Proofs.YtljlgbjbhokhlaaGreatDoor

namespace Go.Proofs.YtljlgbjbhokhlaaGreatDoor
open Go.ChangeShapes Go.WideShapes Go.ChangeAt Go.RowKit
set_option linter.unusedVariables false
set_option linter.unusedSimpArgs false

theorem wok {c S p k : Int} {ln hn : Nat} {lk hk : Bool} {due : Int} {runs : Bool} (h0 : 1 ≤ c ∧ c ≤ 1000000) (h1 : 1 ≤ S ∧ S ≤ 1000000) (h2 : 0 ≤ p ∧ p ≤ 1000000) (h3 : 0 ≤ k ∧ k ≤ 1000000) (h4 : ln < 1000000) (h5 : hn < 1000000) : (⟨c, S, p, k, ln, lk, hn, hk, due, runs⟩ : WinS).ok :=
  ⟨by simp only; omega, by simp only; omega, by simp only; omega, by simp only; omega, by simp only; omega, by simp only; omega⟩
/-- Ahead of any loss. -/
def WinS.base (c : Int) : WinS := ⟨c, 1000000, 0, 0, 0, false, 0, false, 0, false⟩
theorem base_ok (c : Int) (h1 : 1 ≤ c) (h2 : c ≤ 1000) : (WinS.base c).ok := wok ⟨h1, by omega⟩ (by decide) (by decide) (by decide) (by decide) (by decide)
/-- One is got, nothing is on its way. -/
theorem hearBase (c : Int) (h1 : 1 ≤ c) (h2 : c ≤ 900) (p : Option Addr) (cG C D : Nat) (w : World) (h : WinAt (WinS.base c) RttS.zero C D w) :
    Calls Tryz.prog 32 #[.pointer (some ⟨C, 0, none⟩), .agg #[.slice p 1 cG, .slice none 0 0, .slice none 0 0, .int .i64 0, .int .i64 (-1)], .int .i64 0] w fun e w' => e = .returned (.tuple #[]) ∧ WinAt (WinS.base (c + 1)) RttS.zero C D w' ∧ Kept [C, D] w w' := by
  have hl : (WinS.base c).less 1 0 = WinS.base c := rfl
  have hf : (WinS.base c).fast 1 = 1 := by
    show max (min 1 (1000000 - c)) 0 = 1
    omega
  have hg : (WinS.base c).grow 1 = WinS.base (c + 1) := by
    unfold WinS.grow
    rw [hf]
    exact if_pos (show (WinS.base c).count + (1 - 1) < (WinS.base c).cwnd + 1 from (show (0 : Int) + (1 - 1) < c + 1 by omega))
  exact winHear_any (WinS.base c) (WinS.base (c + 1)) (base_ok c h1 (by omega)) RttS.zero RttS.zero RttS.ok_zero 1 0 (by decide) (by decide) (by rw [hl]; exact base_ok c h1 (by omega))
    (by rw [hl, show ((1 : Nat) : Int) = 1 from rfl, hf]; show (0 : Int) + (1 - 1) ≤ 2 * (c + 1); omega) (by rw [hl]; exact hg) (base_ok _ (by omega) (by omega)) p none cG 0 (.slice none 0 0) 0 (-1) 0 (by decide) rfl false C D w h (.inl ⟨rfl, rfl, by decide⟩)
/-- Behind a halving: so wide, so many of a window got. -/
def WinS.av (H c k : Int) : WinS := ⟨c, H, 0, k, 50, true, 50, true, 0, false⟩
theorem av_ok (H c k : Int) (h1 : 1 ≤ H) (h2 : H ≤ 1000) (h3 : H ≤ c) (h4 : c ≤ 1000) (h5 : 0 ≤ k) (h6 : k < c) : (WinS.av H c k).ok := wok (by omega) (by omega) (by decide) (by omega) (by decide) (by decide)
def avC (c k : Int) : Int := if k + 1 < c then c else c + 1
def avK (c k : Int) : Int := if k + 1 < c then k + 1 else k + 1 - c
theorem hearAv (H c k : Int) (h1 : 1 ≤ H) (h2 : H ≤ 500) (h3 : H ≤ c) (h4 : c ≤ 900) (h5 : 0 ≤ k) (h6 : k < c) (p : Option Addr) (cG C D : Nat) (w : World) (h : WinAt (WinS.av H c k) RttS.zero C D w) :
    Calls Tryz.prog 32 #[.pointer (some ⟨C, 0, none⟩), .agg #[.slice p 1 cG, .slice none 0 0, .slice none 0 0, .int .i64 0, .int .i64 (-1)], .int .i64 0] w fun e w' => e = .returned (.tuple #[]) ∧ WinAt (WinS.av H (avC c k) (avK c k)) RttS.zero C D w' ∧ Kept [C, D] w w' := by
  have hl : (WinS.av H c k).less 1 0 = WinS.av H c k := rfl
  have hf : (WinS.av H c k).fast 1 = 0 := by
    show max (min 1 (H - c)) 0 = 0
    omega
  have hg : (WinS.av H c k).grow 1 = WinS.av H (avC c k) (avK c k) := by
    unfold WinS.grow avC avK
    rw [hf]
    by_cases hlt : k + 1 < c
    · rw [if_pos hlt, if_pos hlt]
      refine (if_pos (show (WinS.av H c k).count + (1 - 0) < (WinS.av H c k).cwnd + 0 from (show k + (1 - 0) < c + 0 by omega))).trans ?_
      show (⟨c + 0, H, 0, k + (1 - 0), 50, true, 50, true, 0, false⟩ : WinS) = ⟨c, H, 0, k + 1, 50, true, 50, true, 0, false⟩
      congr 1 <;> omega
    · rw [if_neg hlt, if_neg hlt]
      refine (if_neg (show ¬ (WinS.av H c k).count + (1 - 0) < (WinS.av H c k).cwnd + 0 from (show ¬ k + (1 - 0) < c + 0 by omega))).trans ?_
      show (⟨c + 0 + 1, H, 0, k + (1 - 0) - (c + 0), 50, true, 50, true, 0, false⟩ : WinS) = ⟨c + 1, H, 0, k + 1 - c, 50, true, 50, true, 0, false⟩
      congr 1 <;> omega
  have ho : (WinS.av H (avC c k) (avK c k)).ok := by
    unfold avC avK
    split
    · exact av_ok _ _ _ h1 (by omega) (by omega) (by omega) (by omega) (by omega)
    · exact av_ok _ _ _ h1 (by omega) (by omega) (by omega) (by omega) (by omega)
  exact winHear_any (WinS.av H c k) _ (av_ok H c k h1 (by omega) h3 (by omega) h5 h6) RttS.zero RttS.zero RttS.ok_zero 1 0 (by decide) (by decide) (by rw [hl]; exact av_ok H c k h1 (by omega) h3 (by omega) h5 h6)
    (by rw [hl, show ((1 : Nat) : Int) = 1 from rfl, hf]; show k + (1 - 0) ≤ 2 * (c + 0); omega) (by rw [hl]; exact hg) ho p none cG 0 (.slice none 0 0) 0 (-1) 0 (by decide) rfl false C D w h (.inl ⟨rfl, rfl, by decide⟩)
/-- The first loss. -/
theorem hearLoss (c : Int) (h1 : 2 ≤ c) (h2 : c ≤ 900) (p : Option Addr) (cL C D : Nat) (w : World) (h : WinAt ((WinS.base c).sent 50 (M.winDue 0 RttS.zero.rto)) RttS.zero C D w) :
    Calls Tryz.prog 32 #[.pointer (some ⟨C, 0, none⟩), .agg #[.slice none 0 0, .slice none 0 0, .slice p 1 cL, .int .i64 0, .int .i64 (-1)], .int .i64 0] w fun e w' => e = .returned (.tuple #[]) ∧ WinAt (WinS.av (c / 2) (c / 2) 0) RttS.zero C D w' ∧ Kept [C, D] w w' := by
  obtain ⟨z, hz⟩ : ∃ z : WinS, (⟨c, 1000000, 0, 0, 50, true, 0, false, 3000000, true⟩ : WinS) = z := ⟨_, rfl⟩
  have zo : z.ok := by rw [← hz]; exact ⟨⟨show 1 ≤ c by omega, show c ≤ 1099511627776 by omega⟩, (by decide : (1 : Int) ≤ 1000000 ∧ (1000000 : Int) ≤ 1099511627776), (by decide : (0 : Int) ≤ 0 ∧ (0 : Int) ≤ 1099511627776), (by decide : (0 : Int) ≤ 0 ∧ (0 : Int) ≤ 1099511627776), (by decide : (50 : Nat) < 18446744073709551616), (by decide : (0 : Nat) < 18446744073709551616)⟩
  have hl : ((WinS.base c).sent 50 (M.winDue 0 RttS.zero.rto)).less 0 1 = z := by rw [← hz]; rfl
  have hf : z.fast 0 = 0 := by
    rw [← hz]
    show max (min 0 (1000000 - c)) 0 = 0
    omega
  have hg : z.grow 0 = z := by
    unfold WinS.grow
    rw [hf, ← hz, if_pos (show (0 : Int) + (0 - 0) < c + 0 by omega)]
    show (⟨c + 0, 1000000, 0, 0 + (0 - 0), 50, true, 0, false, 3000000, true⟩ : WinS) = _
    congr 1
    omega
  have so : ((WinS.base c).sent 50 (M.winDue 0 RttS.zero.rto)).ok := ⟨⟨show 1 ≤ c by omega, show c ≤ 1099511627776 by omega⟩, (by decide : (1 : Int) ≤ 1000000 ∧ (1000000 : Int) ≤ 1099511627776), (by decide : (0 : Int) ≤ 1 ∧ (1 : Int) ≤ 1099511627776), (by decide : (0 : Int) ≤ 0 ∧ (0 : Int) ≤ 1099511627776), (by decide : (50 : Nat) < 18446744073709551616), (by decide : (0 : Nat) < 18446744073709551616)⟩
  have h9 := winHear_any ((WinS.base c).sent 50 (M.winDue 0 RttS.zero.rto)) z so RttS.zero RttS.zero RttS.ok_zero 0 1 (by decide) (by decide) (by rw [hl]; exact zo)
    (by rw [hl, show ((0 : Nat) : Int) = 0 from rfl, hf, ← hz]; show (0 : Int) + (0 - 0) ≤ 2 * (c + 0); omega) (by rw [hl]; exact hg) zo none p 0 cL (.slice none 0 0) 0 (-1) 0 (by decide) rfl true C D w h
    (.inr ⟨.inl (by decide), fun W hW hK => isNews_first z (by rw [← hz]) _ _ _ _ _ RttS.zero C D W hW⟩)
  have he : (z.wrong true).clock (M.winDue 0 RttS.zero.rto) = WinS.av (c / 2) (c / 2) 0 := by
    rw [← hz]
    show (⟨max (c / 2) 1, max (c / 2) 1, 0, 0, 50, true, 50, true, 0, false⟩ : WinS) = ⟨c / 2, c / 2, 0, 0, 50, true, 50, true, 0, false⟩
    congr 1 <;> omega
  rw [he] at h9
  exact h9
end Go.Proofs.YtljlgbjbhokhlaaGreatDoor

namespace Go.Proofs.YtljlgbjbhokhlaaGreatDoor
open Go.ChangeShapes Go.WideShapes Go.ChangeAt Go.RowKit
set_option linter.unusedVariables false
set_option linter.unusedSimpArgs false

/-- How far the window is from K yet, read off the world. -/
def cwM (C K : Nat) (w : World) : Nat := match w.cell? ⟨C, 0, none⟩ with
  | some v => K - (intOf v).toNat
  | none => 0
theorem cwM_at {C K : Nat} {w : World} {z : Int} (h : w.cell? ⟨C, 0, none⟩ = some (.int .i64 z)) : cwM C K w = K - z.toNat := by unfold cwM; rw [h]; rfl
theorem heardOne (w : World) : Calls Tryz.prog 31 #[.agg #[.int .i64 0, .int .i64 1, .int .i64 0, .int .i64 0, .int .i64 0, .int .u64 1, .int .i64 (-1), .int .i64 0]] w fun e w' => ∃ p c, e = .returned (.tuple #[.agg #[.slice p 1 c, .slice none 0 0, .slice none 0 0, .int .i64 0, .int .i64 (-1)], .agg #[.slice p 1 c, .slice none 0 0, .slice none 0 0, .int .i64 0, .int .i64 (-1)]]) ∧ Below w.heap.size w w' :=
  heardG_any 1 (by decide) 1 (by decide) (-1) (by decide) (by decide) (-1) (by decide) w
end Go.Proofs.YtljlgbjbhokhlaaGreatDoor

namespace Go.Proofs.YtljlgbjbhokhlaaGreatDoor
open Go.ChangeShapes Go.WideShapes Go.ChangeAt Go.RowKit
set_option linter.unusedVariables false
set_option linter.unusedSimpArgs false

/-- What a Hear of one that is lost leaves. -/
structure LostS (bad : Bool) (s s2 : WinS) : Prop where
  ok : s2.ok
  c : s2.cwnd = (if bad = true then max (s.cwnd / 2) 1 else s.cwnd)
  sl : s2.slow = (if bad = true then max (s.cwnd / 2) 1 else s.slow)
  p : s2.pipe = max (s.pipe - 1) 0
  k : s2.count = 0
  l : s2.ln = s.ln
  lk : s2.lk = s.lk
  h : s2.hn = (if bad = true then s.ln else s.hn)
  hk : s2.hk = (if bad = true then s.lk else s.hk)
theorem lost_hear (s : WinS) (so : s.ok) (hk0 : s.count = 0) (bad : Bool) (p : Option Addr) (cL C D : Nat) (w : World) (h : WinAt s RttS.zero C D w)
    (hn : ∀ z : WinS, z = { s with pipe := max (s.pipe - 1) 0 } → z.ok → ∀ W, WinAt z RttS.zero C D W → Kept [C, D] w W → Calls Tryz.prog 86 #[.pointer (some ⟨C, 0, none⟩), .agg #[.slice none 0 0, .slice none 0 0, .slice p 1 cL, .int .i64 0, .int .i64 (-1)]] W fun e w' => e = .returned (.bool bad) ∧ Below W.heap.size W w') :
    Calls Tryz.prog 32 #[.pointer (some ⟨C, 0, none⟩), .agg #[.slice none 0 0, .slice none 0 0, .slice p 1 cL, .int .i64 0, .int .i64 (-1)], .int .i64 0] w fun e w' => ∃ s2, e = .returned (.tuple #[]) ∧ (LostS bad s s2 ∧ WinAt s2 RttS.zero C D w') ∧ Kept [C, D] w w' := by
  obtain ⟨z, hz⟩ : ∃ z : WinS, s.less 0 1 = z := ⟨_, rfl⟩
  have hz2 : z = { s with pipe := max (s.pipe - 1) 0 } := by
    rw [← hz]
    show ({ s with pipe := max (s.pipe - ((0 : Nat) : Int) - ((1 : Nat) : Int)) 0 } : WinS) = _
    rw [show s.pipe - ((0 : Nat) : Int) - ((1 : Nat) : Int) = s.pipe - 1 by omega]
  obtain ⟨o0, o1, o2, o3, o4, o5⟩ := so
  have zo : z.ok := by rw [hz2]; exact ⟨o0, o1, by simp only; omega, o3, o4, o5⟩
  have zc : z.cwnd = s.cwnd := by rw [hz2]
  have zs : z.slow = s.slow := by rw [hz2]
  have zp : z.pipe = max (s.pipe - 1) 0 := by rw [hz2]
  have zk : z.count = 0 := by rw [hz2]; exact hk0
  have zl : z.ln = s.ln := by rw [hz2]
  have zlk : z.lk = s.lk := by rw [hz2]
  have zh : z.hn = s.hn := by rw [hz2]
  have zhk : z.hk = s.hk := by rw [hz2]
  have hf : z.fast 0 = 0 := by unfold WinS.fast; omega
  have hg : z.grow 0 = z := by
    unfold WinS.grow
    rw [hf, if_pos (by omega)]
    have e1 : z.cwnd + 0 = z.cwnd := by omega
    have e2 : z.count + (0 - 0) = z.count := by omega
    rw [e1, e2]
  have h9 := winHear_any s z ⟨o0, o1, o2, o3, o4, o5⟩ RttS.zero RttS.zero RttS.ok_zero 0 1 (by decide) (by decide) (by rw [hz]; exact zo)
    (by rw [hz, show ((0 : Nat) : Int) = 0 from rfl, hf]; omega) (by rw [hz]; exact hg) zo none p 0 cL (.slice none 0 0) 0 (-1) 0 (by decide) rfl bad C D w h
    (.inr ⟨.inl (by decide), fun W hW hK => hn z hz2 zo W hW hK⟩)
  refine h9.mono fun e w' ⟨e1, e2, e3⟩ => ⟨_, e1, ⟨?_, e2⟩, e3⟩
  obtain ⟨q0, q1, q2, q3, q4, q5⟩ := zo
  cases bad with
  | true =>
    have hw : z.wrong true = { z with cwnd := max (z.cwnd / 2) 1, slow := max (z.cwnd / 2) 1, count := 0, hn := z.ln, hk := z.lk } := by
      unfold WinS.wrong WinS.halve
      rw [if_pos rfl]
    rw [hw]
    unfold WinS.clock
    split
    all_goals exact ⟨⟨⟨show 1 ≤ max (z.cwnd / 2) 1 by omega, show max (z.cwnd / 2) 1 ≤ 1099511627776 by omega⟩, ⟨show 1 ≤ max (z.cwnd / 2) 1 by omega, show max (z.cwnd / 2) 1 ≤ 1099511627776 by omega⟩, q2, (by decide : (0 : Int) ≤ 0 ∧ (0 : Int) ≤ 1099511627776), q4, q4⟩, by show max (z.cwnd / 2) 1 = _; rw [if_pos rfl, zc], by show max (z.cwnd / 2) 1 = _; rw [if_pos rfl, zc], zp, rfl, zl, zlk, by show z.ln = _; rw [if_pos rfl, zl], by show z.lk = _; rw [if_pos rfl, zlk]⟩
  | false =>
    have hw : z.wrong false = z := rfl
    rw [hw]
    unfold WinS.clock
    split
    all_goals exact ⟨⟨q0, q1, q2, q3, q4, q5⟩, by rw [if_neg (by decide)]; exact zc, by rw [if_neg (by decide)]; exact zs, zp, zk, zl, zlk, by rw [if_neg (by decide)]; exact zh, by rw [if_neg (by decide)]; exact zhk⟩
/-- The first loss. -/
theorem lost_first (s : WinS) (so : s.ok) (hk0 : s.count = 0) (hh : s.hk = false) (p : Option Addr) (cL C D : Nat) (w : World) (h : WinAt s RttS.zero C D w) :
    Calls Tryz.prog 32 #[.pointer (some ⟨C, 0, none⟩), .agg #[.slice none 0 0, .slice none 0 0, .slice p 1 cL, .int .i64 0, .int .i64 (-1)], .int .i64 0] w fun e w' => ∃ s2, e = .returned (.tuple #[]) ∧ (LostS true s s2 ∧ WinAt s2 RttS.zero C D w') ∧ Kept [C, D] w w' :=
  lost_hear s so hk0 true p cL C D w h (fun z hz zo W hW hK => isNews_first z (by rw [hz]; exact hh) _ _ _ _ _ RttS.zero C D W hW)
/-- A loss behind a halving: its number tells. -/
theorem lost_next (s : WinS) (so : s.ok) (hk0 : s.count = 0) (hh : s.hk = true) (bad : Bool) (x B : Nat) (hx : x < 281474976710656) (hb : decide (diffI (s.hn : Int) (x : Int) < 0) = bad) (p : Option Addr) (cL C D : Nat) (w : World) (h : WinAt s RttS.zero C D w) (hr : w.ownsRow B 22 1 (.slice p 1 cL) 1 [.int .u64 x]) (hBC : C < B) (hBD : D < B) :
    Calls Tryz.prog 32 #[.pointer (some ⟨C, 0, none⟩), .agg #[.slice none 0 0, .slice none 0 0, .slice p 1 cL, .int .i64 0, .int .i64 (-1)], .int .i64 0] w fun e w' => ∃ s2, e = .returned (.tuple #[]) ∧ (LostS bad s s2 ∧ WinAt s2 RttS.zero C D w') ∧ Kept [C, D] w w' := by
  rcases hr.2 with ⟨hv, h0⟩ | ⟨g, cap, cur, hv, hB, hg, hcap, hcm, hs, ht⟩
  · cases h0
  · injection hv with e1 e2 e3
    subst e1 e3
    have hlt : g < w.heap.size := (Array.getElem?_eq_some_iff.1 hg).1
    have hc : w.cell? ⟨g, 0, none⟩ = some (.int .u64 x) := by
      rw [cell_of_row w g 0 cur _ _ hg, ← Array.getElem?_toList]
      have h2 : ([Value.int .u64 x] : List Value)[0]? = some (.int .u64 x) := rfl
      rw [← ht, List.getElem?_take_of_lt (by decide)] at h2
      exact h2
    refine lost_hear s so hk0 bad (some ⟨g, 0, none⟩) cL C D w h (fun z hz zo W hW hK => ?_)
    have h8 := isNews_lost z zo (by rw [hz]; exact hh) (.slice none 0 0) (.slice none 0 0) (.int .i64 0) (.int .i64 (-1)) g cL x (by omega) RttS.zero C D W hW (Nat.lt_of_lt_of_le hlt hK.size) ((hK.cell (p := ⟨g, 0, none⟩) hlt (by simp; omega)).trans hc)
    rw [show z.hn = s.hn by rw [hz], hb] at h8
    exact h8
end Go.Proofs.YtljlgbjbhokhlaaGreatDoor

namespace Go.Proofs.YtljlgbjbhokhlaaGreatDoor
open Go.ChangeShapes Go.WideShapes Go.ChangeAt Go.RowKit
set_option linter.unusedVariables false
set_option linter.unusedSimpArgs false

/-- i of N are sent, from a thousand on. -/
structure SnK (N i : Int) (s : WinS) : Prop where
  ok : s.ok
  c : s.cwnd = N
  sl : s.slow = 1000000
  p : s.pipe = i
  k : s.count = 0
  h : s.hk = false
  l : 0 < i → (s.ln : Int) = 999 + i ∧ s.lk = true
theorem SnK.next {N i : Int} {s : WinS} (h : SnK N i s) (h0 : 0 ≤ i) (h1 : i < N) (h2 : N ≤ 900) (n : Nat) (hn : (n : Int) = 1000 + i) (due : Int) : SnK N (i + 1) (s.sent n due) := by
  obtain ⟨⟨o0, o1, o2, o3, o4, o5⟩, hc, hs, hp, hk, hh, hl⟩ := h
  unfold WinS.sent
  split
  · exact ⟨⟨o0, o1, by simp only; omega, o3, by simp only; omega, o5⟩, hc, hs, by simp only; omega, hk, hh, fun _ => ⟨by simp only; omega, rfl⟩⟩
  · exact ⟨⟨o0, o1, by simp only; omega, o3, by simp only; omega, o5⟩, hc, hs, by simp only; omega, hk, hh, fun _ => ⟨by simp only; omega, rfl⟩⟩
/-- Halved once: so wide, so many on their way. -/
structure HlS (H pp : Int) (l : Nat) (s : WinS) : Prop where
  ok : s.ok
  c : s.cwnd = H
  sl : s.slow = H
  p : s.pipe = pp
  k : s.count = 0
  el : s.ln = l
  lk : s.lk = true
  eh : s.hn = l
  hk : s.hk = true
theorem HlS.of_first {N : Int} {s s2 : WinS} (hN : 2 ≤ N) (h : SnK N N s) (h2 : LostS true s s2) (H : Int) (hH : N / 2 = H) (l : Nat) (hl : (l : Int) = 999 + N) : HlS H (max (N - 1) 0) l s2 := by
  obtain ⟨l1, l2⟩ := h.l (by omega)
  have e1 := h2.c
  have e2 := h2.sl
  have e3 := h2.h
  have e4 := h2.hk
  rw [if_pos rfl, h.c] at e1 e2
  rw [if_pos rfl] at e3 e4
  have e5 : s.ln = l := by omega
  exact ⟨h2.ok, by omega, by omega, by rw [h2.p, h.p], h2.k, h2.l.trans e5, h2.lk.trans l2, e3.trans e5, e4.trans l2⟩
theorem HlS.of_next {H pp : Int} {l : Nat} {s s2 : WinS} (h : HlS H pp l s) (h2 : LostS false s s2) : HlS H (max (pp - 1) 0) l s2 := by
  have e1 := h2.c
  have e2 := h2.sl
  have e3 := h2.h
  have e4 := h2.hk
  rw [if_neg (by decide)] at e1 e2 e3 e4
  exact ⟨h2.ok, e1.trans h.c, e2.trans h.sl, by rw [h2.p, h.p], h2.k, h2.l.trans h.el, h2.lk.trans h.lk, e3.trans h.eh, e4.trans h.hk⟩
/-- How many are on their way, read off the world. -/
def pipM (C : Nat) (w : World) : Nat := match w.cell? ⟨C, 2, none⟩ with
  | some v => (intOf v).toNat
  | none => 0
theorem pipM_at {C : Nat} {w : World} {z : Int} (h : w.cell? ⟨C, 2, none⟩ = some (.int .i64 z)) : pipM C w = z.toNat := by unfold pipM; rw [h]; rfl
theorem heardI (i : Nat) (hi : i ≤ 1000) (w : World) : Calls Tryz.prog 31 #[.agg #[.int .i64 0, .int .i64 1, .int .i64 0, .int .i64 0, .int .i64 0, .int .u64 i, .int .i64 (-1), .int .i64 0]] w fun e w' => ∃ p c, e = .returned (.tuple #[.agg #[.slice p 1 c, .slice none 0 0, .slice none 0 0, .int .i64 0, .int .i64 (-1)], .agg #[.slice p 1 c, .slice none 0 0, .slice none 0 0, .int .i64 0, .int .i64 (-1)]]) ∧ Below w.heap.size w w' :=
  heardG_any 1 (by decide) i (by omega) (-1) (by decide) (by decide) (-1) (by decide) w
theorem heardX (x : Nat) (hx : x ≤ 2000) (w : World) : Calls Tryz.prog 31 #[.agg #[.int .i64 0, .int .i64 0, .int .i64 1, .int .i64 0, .int .i64 0, .int .u64 x, .int .i64 (-1), .int .i64 0]] w fun e w' => ∃ p c, e = .returned (.tuple #[.agg #[.slice none 0 0, .slice none 0 0, .slice p 1 c, .int .i64 0, .int .i64 (-1)], .agg #[.slice none 0 0, .slice none 0 0, .slice p 1 c, .int .i64 0, .int .i64 (-1)]]) ∧ Below w.heap.size w w' ∧ w'.ownsRow (w.heap.size + 5) 22 1 (.slice p 1 c) 1 [.int .u64 x] := by
  have h1 := heardL_any x (by omega) (-1) (by decide) (by decide) (-1) (by decide) w
  rw [show ((x : Nat) : Int) % 281474976710656 = (x : Int) by omega] at h1
  exact h1
set_option maxHeartbeats 32000000 in
set_option maxRecDepth 100000 in
theorem winHalf_walk (n : Int) (n1 : -9223372036854775808 ≤ n) (n2 : n ≤ 9223372036854775807) (pm : Option Addr) (ml mc : Nat) (hml : ml ≤ mc) (hmc : mc ≤ 9223372036854775807) (w : World) (hT : TabW w)
    (hcell : ∀ i, i < ml → ∃ (b o : Nat) (x : Int), pm = some ⟨b, o, none⟩ ∧ b < w.heap.size ∧ w.cell? ⟨b, o + i, none⟩ = some (.int .i64 x)) :
    Calls Tryz.prog 6 #[.int .i64 n, .slice pm ml mc] w fun e w' => e = .returned (.bool true) ∧ Below w.heap.size w w' := by
  have HBG : Hid (∀ W, Below w.heap.size w W → Calls Tryz.prog 18 #[] W fun e w' => e = .returned (.bool true) ∧ Below W.heap.size W w') := Lib.hid (fun W hb => begun8_any W (hT.below hb))
  have HC := Lib.hid hcell
  clear hT hcell
  obtain ⟨a, ha, a1, a2, J, hJ, hJ3⟩ := mod_at9 n 40 (by decide)
  obtain ⟨N, hN⟩ : ∃ N : Nat, 4 + (J : Int) = (N : Int) := ⟨4 + J, by omega⟩
  have hN1 : 4 ≤ N := by omega
  have hN2 : N ≤ 43 := by omega
  go_enter Tryz.func6, Tryz.ntmps6
  go_upto_region 6 with (first
    | (go_at_call 18; refine (HBG.out _ (Below.refl _ _)).mono ?_; rintro e w0 ⟨rfl, hb0⟩)
    | (go_at_call 29; refine (winNew_any _).mono ?_; rintro e w1 ⟨C, D, rfl, hwin, hc1, hd1, hb1⟩))
  have HW1 : Hid (WinAt (WinS.base (3 + ((0 : Nat) : Int))) RttS.zero C D w1) := Lib.hid hwin
  have HB1 : Hid (Below w.heap.size w w1) := Lib.hid (bel_trans hb0 hb1)
  have HNE : Hid (w.heap.size ≤ C ∧ w.heap.size ≤ D) := Lib.hid ⟨Nat.le_trans hb0.size hc1, Nat.le_trans hb0.size hd1⟩
  have HNI := Lib.hid hN
  clear hwin hc1 hd1 hb0 hb1 ha hJ hN HBG
  go_wp2
  go_loopw [7] (fun iv wr => ∃ i : Nat, iv = .int .i64 (i : Int) ∧ 3 + i ≤ N ∧ Hid (WinAt (WinS.base (3 + (i : Int))) RttS.zero C D wr) ∧ Hid (Below w.heap.size w wr)) (fun iv _ => N - (intOf iv).toNat)
  case atStart => exact ⟨0, rfl, by omega, HW1, HB1⟩
  case round =>
    clear HW1 HB1
    obtain ⟨i, rfl, hi, hw, hbw⟩ := hrel
    obtain ⟨c, hc⟩ : ∃ c : Int, 3 + (i : Int) = c := ⟨_, rfl⟩
    have hcb : c ≤ (N : Int) := by omega
    have hc3 : 3 ≤ c := by omega
    have HCe := Lib.hid hc
    rw [hc] at hw
    clear hc
    have HCW : Hid (Calls Tryz.prog 30 #[.pointer (some ⟨C, 0, none⟩)] wr fun e w' => e = .returned (.int .i64 c) ∧ wr = w') := Lib.hid (winCwnd_any (WinS.base c) RttS.zero C D wr hw.out)
    by_cases hlt : c < (N : Int)
    · have hd : decide (c < (N : Int)) = true := decide_eq_true hlt
      have hiw : IntKind.u64.wrap (i : Int) = (i : Int) := IntWalk.u64_in _ (by omega)
      have HG := Lib.hid (fun W => heardI i (by omega) W)
      go_upto_region 10 with (first
        | (go_at_call 30; (with_reducible refine HCW.out.mono ?_); rintro e w3 ⟨rfl, rfl⟩)
        | (go_at_call 31; (with_reducible refine (HG.out _).mono ?_); rintro e w4 ⟨p, q, rfl, hb4⟩))
      have hwat := hw.out
      have hk : BlkIs #[.slice p 1 q, .slice none 0 0, .slice none 0 0, .int .i64 0, .int .i64 (-1)] 41 w4.heap.size ((w4.alloc (.cells #[.slice p 1 q, .slice none 0 0, .slice none 0 0, .int .i64 0, .int .i64 (-1)] 41)).alloc (.cells #[.slice p 1 q, .slice none 0 0, .slice none 0 0, .int .i64 0, .int .i64 (-1)] 48)) := (BlkIs.new _ _ _).alloc _
      have hbA : Below w4.heap.size w4 ((w4.alloc (.cells #[.slice p 1 q, .slice none 0 0, .slice none 0 0, .int .i64 0, .int .i64 (-1)] 41)).alloc (.cells #[.slice p 1 q, .slice none 0 0, .slice none 0 0, .int .i64 0, .int .i64 (-1)] 48)) := bel_trans (bel_alloc _ _) (bel_alloc _ _)
      have hb5 : Below wr.heap.size wr ((w4.alloc (.cells #[.slice p 1 q, .slice none 0 0, .slice none 0 0, .int .i64 0, .int .i64 (-1)] 41)).alloc (.cells #[.slice p 1 q, .slice none 0 0, .slice none 0 0, .int .i64 0, .int .i64 (-1)] 48)) := bel_trans hb4 hbA
      have HW5 := Lib.hid (hwat.below hb5)
      have HB5 : Hid (Below w.heap.size w ((w4.alloc (.cells #[.slice p 1 q, .slice none 0 0, .slice none 0 0, .int .i64 0, .int .i64 (-1)] 41)).alloc (.cells #[.slice p 1 q, .slice none 0 0, .slice none 0 0, .int .i64 0, .int .i64 (-1)] 48))) := Lib.hid (bel_trans hbw.out hb5)
      clear hb4 hb5 hbA
      generalize ((w4.alloc (.cells #[.slice p 1 q, .slice none 0 0, .slice none 0 0, .int .i64 0, .int .i64 (-1)] 41)).alloc (.cells #[.slice p 1 q, .slice none 0 0, .slice none 0 0, .int .i64 0, .int .i64 (-1)] 48)) = w5 at *
      generalize w4.heap.size = B at *
      have x0 : w5.cell? ⟨B, 0, none⟩ = some (.slice p 1 q) := BlkIs.cell hk 0
      have x1 : w5.cell? ⟨B, 1, none⟩ = some (.slice none 0 0) := BlkIs.cell hk 1
      have x2 : w5.cell? ⟨B, 2, none⟩ = some (.slice none 0 0) := BlkIs.cell hk 2
      have x3 : w5.cell? ⟨B, 3, none⟩ = some (.int .i64 0) := BlkIs.cell hk 3
      have x4 : w5.cell? ⟨B, 4, none⟩ = some (.int .i64 (-1)) := BlkIs.cell hk 4
      clear hk
      have HHE := Lib.hid (hearBase c (by omega) (by omega) p q C D w5 HW5.out)
      clear hwat
      go_wp2_with (go_at_call 32; (with_reducible refine HHE.out.mono ?_); rintro e w6 ⟨rfl, hw6, hk6⟩)
      refine ⟨⟨i + 1, by go_num, by have := HCe.out; omega, Lib.hid (by rw [show 3 + ((i + 1 : Nat) : Int) = c + 1 by have := HCe.out; omega]; exact hw6), Lib.hid (kb2 HB5.out hk6 HNE.out.1 HNE.out.2)⟩, ?_⟩
      have := HCe.out
      simp [intOf]; omega
    · have hcN : c = (N : Int) := by omega
      have hd : decide (c < (N : Int)) = false := decide_eq_false hlt
      have HS0 : Hid (SnK (N : Int) ((0 : Nat) : Int) (WinS.base c) ∧ WinAt (WinS.base c) RttS.zero C D wr) := Lib.hid ⟨⟨base_ok _ (by omega) (by omega), hcN, rfl, rfl, rfl, rfl, fun h => absurd h (by decide)⟩, hw.out⟩
      obtain ⟨wR, rfl⟩ : ∃ wR : World, wR = wr := ⟨_, rfl⟩
      clear hcN
      go_wp2_with (go_at_call 30; (with_reducible refine HCW.out.mono ?_); rintro e w3 ⟨rfl, rfl⟩)
      clear HCW hw hd
      go_loopw [11] (fun iv wr => ∃ (i : Nat) (s : WinS), iv = .int .i64 (i : Int) ∧ i ≤ N ∧ Hid (SnK (N : Int) (i : Int) s ∧ WinAt s RttS.zero C D wr) ∧ Hid (Below w.heap.size w wr)) (fun iv _ => N - (intOf iv).toNat)
      case atStart => exact ⟨0, _, rfl, Nat.zero_le _, HS0, hbw⟩
      case round =>
        clear HS0 hbw
        obtain ⟨i, s, rfl, hi2, hs, hb2⟩ := hrel
        by_cases hiN : i < N
        · have hdi : decide ((i : Int) < (N : Int)) = true := decide_eq_true (by omega)
          have hiw : IntKind.u64.wrap (i : Int) = (i : Int) := IntWalk.u64_in _ (by omega)
          have HSE : Hid (Calls Tryz.prog 33 #[.pointer (some ⟨C, 0, none⟩), .int .u64 (1000 + (i : Int)), .int .i64 0] wr fun e w' => e = .returned (.bool true) ∧ WinAt (s.sent (1000 + i) (M.winDue 0 RttS.zero.rto)) RttS.zero C D w' ∧ Kept [C] wr w') := Lib.hid (by
            have h1 := winSent_yes s hs.out.1.ok (by rw [hs.out.1.p, hs.out.1.c]; omega) RttS.zero RttS.ok_zero (1000 + i) (by omega) 0 (by decide) C D wr hs.out.2
            rw [show ((1000 + i : Nat) : Int) = 1000 + (i : Int) by omega] at h1
            exact h1)
          have HSN : Hid (SnK (N : Int) ((i + 1 : Nat) : Int) (s.sent (1000 + i) (M.winDue 0 RttS.zero.rto))) := Lib.hid (by
            rw [show ((i + 1 : Nat) : Int) = (i : Int) + 1 by omega]
            exact hs.out.1.next (by omega) (by omega) (by omega) (1000 + i) (by omega) _)
          go_wp2_with (go_at_call 33; (with_reducible refine HSE.out.mono ?_); rintro e w4 ⟨rfl, hw4, hk4⟩)
          refine ⟨⟨i + 1, _, by go_num, by omega, Lib.hid ⟨HSN.out, hw4⟩, Lib.hid (kb2 hb2.out (hk4.more (by simp)) HNE.out.1 HNE.out.2)⟩, ?_⟩
          simp [intOf]; omega
        · have hie : i = N := by omega
          have hdi : decide ((i : Int) < (N : Int)) = false := decide_eq_false (by omega)
          have HSI : Hid (SnK (N : Int) (N : Int) s ∧ WinAt s RttS.zero C D wr) := Lib.hid (by
            have h1 := hs.out
            rw [show (i : Int) = (N : Int) by omega] at h1
            exact h1)
          have HCW : Hid (Calls Tryz.prog 30 #[.pointer (some ⟨C, 0, none⟩)] wr fun e w' => e = .returned (.int .i64 (N : Int)) ∧ wr = w') := Lib.hid (by
            have h1 := winCwnd_any s RttS.zero C D wr hs.out.2
            rw [HSI.out.1.c] at h1
            exact h1)
          obtain ⟨wS, rfl⟩ : ∃ wS : World, wS = wr := ⟨_, rfl⟩
          clear hie
          go_wp2_with (go_at_call 30; (with_reducible refine HCW.out.mono ?_); rintro e w3 ⟨rfl, rfl⟩)
          clear HCW hs hdi
          obtain ⟨H, hH⟩ : ∃ H : Int, (N : Int) / 2 = H := ⟨_, rfl⟩
          have hH2 : 2 ≤ H ∧ H ≤ 21 := by omega
          obtain ⟨hH3, hH4⟩ := hH2
          have hq1 : (N : Int).tdiv 2 = H := by rw [Int.tdiv_eq_ediv_of_nonneg (by omega)]; exact hH
          have HHe := Lib.hid hH
          obtain ⟨L, hL⟩ : ∃ L : Nat, (L : Int) = 999 + (N : Int) := ⟨999 + N, by omega⟩
          have HLe := Lib.hid hL
          clear hL
          go_loopw [13] (fun iv wr => ∃ (i : Nat) (s : WinS), iv = .int .i64 (i : Int) ∧ i ≤ 10 ∧ i ≤ ml ∧ Hid (((i = 0 ∧ SnK (N : Int) (N : Int) s) ∨ (0 < i ∧ ∃ pp : Int, 0 ≤ pp ∧ pp ≤ 43 ∧ HlS H pp L s)) ∧ WinAt s RttS.zero C D wr) ∧ Hid (Below w.heap.size w wr)) (fun iv _ => 10 - (intOf iv).toNat)
          case atStart => exact ⟨0, s, rfl, by omega, Nat.zero_le _, Lib.hid ⟨.inl ⟨rfl, HSI.out.1⟩, HSI.out.2⟩, hb2⟩
          case round =>
            clear HSI hb2
            obtain ⟨i, s, rfl, hi10, him, hst, hbw⟩ := hrel
            by_cases hl : i < ml ∧ i < 10
            · obtain ⟨hl1, hl2⟩ := hl
              have hd1 : decide ((i : Int) < (ml : Int)) = true := decide_eq_true (by omega)
              have hd2 : decide ((i : Int) < 10) = true := decide_eq_true (by omega)
              obtain ⟨b, o, x, rfl, hbl, hx⟩ := HC.out i hl1
              rw [← hbw.out.cell (p := ⟨b, o + i, none⟩) hbl] at hx
              obtain ⟨y, hy, y1, y2, K, hK, hK3⟩ := mod_at9 x (N : Int) (by omega)
              have hN0 : ¬ N = 0 := by omega
              have hKw : IntKind.u64.wrap (K : Int) = (K : Int) := IntWalk.u64_in _ (by omega)
              have HX : Hid (∀ W, Calls Tryz.prog 31 #[.agg #[.int .i64 0, .int .i64 0, .int .i64 1, .int .i64 0, .int .i64 0, .int .u64 (1000 + (K : Int)), .int .i64 (-1), .int .i64 0]] W fun e w' => ∃ p c, e = .returned (.tuple #[.agg #[.slice none 0 0, .slice none 0 0, .slice p 1 c, .int .i64 0, .int .i64 (-1)], .agg #[.slice none 0 0, .slice none 0 0, .slice p 1 c, .int .i64 0, .int .i64 (-1)]]) ∧ Below W.heap.size W w' ∧ w'.ownsRow (W.heap.size + 5) 22 1 (.slice p 1 c) 1 [.int .u64 ((1000 + K : Nat) : Int)]) := Lib.hid (fun W => by
                have h1 := heardX (1000 + K) (by omega) W
                rw [show ((1000 + K : Nat) : Int) = 1000 + (K : Int) by omega] at h1 ⊢
                exact h1)
              have HHN : Hid (∀ p c W, WinAt s RttS.zero C D W → W.ownsRow (wr.heap.size + 5) 22 1 (.slice p 1 c) 1 [.int .u64 ((1000 + K : Nat) : Int)] → Calls Tryz.prog 32 #[.pointer (some ⟨C, 0, none⟩), .agg #[.slice none 0 0, .slice none 0 0, .slice p 1 c, .int .i64 0, .int .i64 (-1)], .int .i64 0] W fun e w' => ∃ s2, e = .returned (.tuple #[]) ∧ ((∃ pp : Int, 0 ≤ pp ∧ pp ≤ 43 ∧ HlS H pp L s2) ∧ WinAt s2 RttS.zero C D w') ∧ Kept [C, D] W w') := Lib.hid (fun p c W hW hr => by
                rcases hst.out.1 with ⟨_, h1⟩ | ⟨_, pp, p1, p2, h1⟩
                · refine (lost_first s h1.ok h1.k h1.h p c C D W hW).mono ?_
                  rintro e w' ⟨s2, rfl, ⟨h3, h4⟩, h5⟩
                  exact ⟨s2, rfl, ⟨⟨max ((N : Int) - 1) 0, by omega, by omega, HlS.of_first (by omega) h1 h3 H HHe.out L HLe.out⟩, h4⟩, h5⟩
                · have hCl := hst.out.2.win.lt
                  have hDl := BlkIs.lt hst.out.2.rtt
                  refine (lost_next s h1.ok h1.k h1.hk false (1000 + K) (wr.heap.size + 5) (by omega) (by rw [h1.eh]; refine decide_eq_false ?_; have := HLe.out; unfold diffI; omega) p c C D W hW hr (by omega) (by omega)).mono ?_
                  rintro e w' ⟨s2, rfl, ⟨h3, h4⟩, h5⟩
                  exact ⟨s2, rfl, ⟨⟨max (pp - 1) 0, by omega, by omega, h1.of_next h3⟩, h4⟩, h5⟩)
              have hwat := hst.out.2
              obtain ⟨wT, rfl⟩ : ∃ wT : World, wT = wr := ⟨_, rfl⟩
              go_upto_region 22 with (go_at_call 31; (with_reducible refine (HX.out _).mono ?_); rintro e w4 ⟨p, q, rfl, hb4, hrow⟩)
              clear hx hy hK HX
              have hk : BlkIs #[.slice none 0 0, .slice none 0 0, .slice p 1 q, .int .i64 0, .int .i64 (-1)] 41 w4.heap.size ((w4.alloc (.cells #[.slice none 0 0, .slice none 0 0, .slice p 1 q, .int .i64 0, .int .i64 (-1)] 41)).alloc (.cells #[.slice none 0 0, .slice none 0 0, .slice p 1 q, .int .i64 0, .int .i64 (-1)] 48)) := (BlkIs.new _ _ _).alloc _
              have hbA : Below w4.heap.size w4 ((w4.alloc (.cells #[.slice none 0 0, .slice none 0 0, .slice p 1 q, .int .i64 0, .int .i64 (-1)] 41)).alloc (.cells #[.slice none 0 0, .slice none 0 0, .slice p 1 q, .int .i64 0, .int .i64 (-1)] 48)) := bel_trans (bel_alloc _ _) (bel_alloc _ _)
              have hb5 : Below wT.heap.size wT ((w4.alloc (.cells #[.slice none 0 0, .slice none 0 0, .slice p 1 q, .int .i64 0, .int .i64 (-1)] 41)).alloc (.cells #[.slice none 0 0, .slice none 0 0, .slice p 1 q, .int .i64 0, .int .i64 (-1)] 48)) := bel_trans hb4 hbA
              have HW5 := Lib.hid (hwat.below hb5)
              have HB5 : Hid (Below w.heap.size w ((w4.alloc (.cells #[.slice none 0 0, .slice none 0 0, .slice p 1 q, .int .i64 0, .int .i64 (-1)] 41)).alloc (.cells #[.slice none 0 0, .slice none 0 0, .slice p 1 q, .int .i64 0, .int .i64 (-1)] 48))) := Lib.hid (bel_trans hbw.out hb5)
              have HR5 : Hid (((w4.alloc (.cells #[.slice none 0 0, .slice none 0 0, .slice p 1 q, .int .i64 0, .int .i64 (-1)] 41)).alloc (.cells #[.slice none 0 0, .slice none 0 0, .slice p 1 q, .int .i64 0, .int .i64 (-1)] 48)).ownsRow (wT.heap.size + 5) 22 1 (.slice p 1 q) 1 [.int .u64 ((1000 + K : Nat) : Int)]) := Lib.hid (ownsRow_keptC hrow ((Kept.refl [] w4).trans' (Kept.of_below [] hbA)) (by simp))
              clear hrow
              clear hb4 hb5 hbA
              generalize ((w4.alloc (.cells #[.slice none 0 0, .slice none 0 0, .slice p 1 q, .int .i64 0, .int .i64 (-1)] 41)).alloc (.cells #[.slice none 0 0, .slice none 0 0, .slice p 1 q, .int .i64 0, .int .i64 (-1)] 48)) = w5 at *
              generalize w4.heap.size = B at *
              have x0 : w5.cell? ⟨B, 0, none⟩ = some (.slice none 0 0) := BlkIs.cell hk 0
              have x1 : w5.cell? ⟨B, 1, none⟩ = some (.slice none 0 0) := BlkIs.cell hk 1
              have x2 : w5.cell? ⟨B, 2, none⟩ = some (.slice p 1 q) := BlkIs.cell hk 2
              have x3 : w5.cell? ⟨B, 3, none⟩ = some (.int .i64 0) := BlkIs.cell hk 3
              have x4 : w5.cell? ⟨B, 4, none⟩ = some (.int .i64 (-1)) := BlkIs.cell hk 4
              clear hk
              have HHE := Lib.hid (HHN.out p q w5 HW5.out HR5.out)
              clear hwat HHN
              have HCH : Hid (∀ s2 W, (∃ pp : Int, 0 ≤ pp ∧ pp ≤ 43 ∧ HlS H pp L s2) → WinAt s2 RttS.zero C D W → Calls Tryz.prog 30 #[.pointer (some ⟨C, 0, none⟩)] W fun e w' => e = .returned (.int .i64 H) ∧ W = w') := Lib.hid (fun s2 W hz hW => by
                obtain ⟨pp, _, _, hz⟩ := hz
                have h1 := winCwnd_any s2 RttS.zero C D W hW
                rw [hz.c] at h1
                exact h1)
              have HSH : Hid (∀ s2 W, (∃ pp : Int, 0 ≤ pp ∧ pp ≤ 43 ∧ HlS H pp L s2) → WinAt s2 RttS.zero C D W → Calls Tryz.prog 34 #[.pointer (some ⟨C, 0, none⟩)] W fun e w' => e = .returned (.int .i64 H) ∧ W = w') := Lib.hid (fun s2 W hz hW => by
                obtain ⟨pp, _, _, hz⟩ := hz
                have h1 := winSlow_any s2 RttS.zero C D W hW
                rw [hz.sl] at h1
                exact h1)
              go_upto_region 23 with (go_at_call 32; (with_reducible refine HHE.out.mono ?_); rintro e w6 ⟨s2, rfl, ⟨hs6, hw6⟩, hk6⟩)
              have HS6 : Hid (∃ pp : Int, 0 ≤ pp ∧ pp ≤ 43 ∧ HlS H pp L s2) := Lib.hid hs6
              have HCH2 := Lib.hid (HCH.out s2 w6 hs6 hw6)
              have HSH2 := Lib.hid (HSH.out s2 w6 hs6 hw6)
              clear x0 x1 x2 x3 x4 hs6 HCH HSH
              go_wp2_with (first
                | (go_at_call 30; (with_reducible refine HCH2.out.mono ?_); rintro e w7 ⟨rfl, rfl⟩)
                | (go_at_call 34; (with_reducible refine HSH2.out.mono ?_); rintro e w8 ⟨rfl, rfl⟩))
              refine ⟨⟨i + 1, s2, by go_num, by omega, by omega, Lib.hid ⟨.inr ⟨by omega, HS6.out⟩, hw6⟩, Lib.hid (kb2 HB5.out hk6 HNE.out.1 HNE.out.2)⟩, ?_⟩
              simp [intOf]; omega
            · by_cases hm0 : ml = 0
              · have hi0 : i = 0 := by omega
                have hd1 : decide ((i : Int) < (ml : Int)) = false := decide_eq_false (by omega)
                have hmz : ((ml : Int) == 0) = true := by rw [beq_iff_eq]; omega
                have HCW : Hid (Calls Tryz.prog 30 #[.pointer (some ⟨C, 0, none⟩)] wr fun e w' => e = .returned (.int .i64 (N : Int)) ∧ wr = w') := Lib.hid (by
                  have h1 := winCwnd_any s RttS.zero C D wr hst.out.2
                  rcases hst.out.1 with ⟨_, h2⟩ | ⟨h2, _⟩
                  · rw [h2.c] at h1; exact h1
                  · omega)
                have hn1 : ¬ i < ml := by omega
                clear hi0 hm0 hl hst
                go_wp2_with (go_at_call 30; (with_reducible refine HCW.out.mono ?_); rintro e w7 ⟨rfl, rfl⟩)
                go_ret
                exact ⟨rfl, hbw.out⟩
              · have hip : 0 < i := by omega
                obtain ⟨pp, p1, p2, hs1⟩ : ∃ pp : Int, 0 ≤ pp ∧ pp ≤ 43 ∧ Hid (HlS H pp L s ∧ WinAt s RttS.zero C D wr) := by
                  rcases hst.out.1 with ⟨h2, _⟩ | ⟨_, pp, q1, q2, h2⟩
                  · omega
                  · exact ⟨pp, q1, q2, Lib.hid ⟨h2, hst.out.2⟩⟩
                have hdc : (decide ((i : Int) < (ml : Int)) = false ∧ ¬ i < ml) ∨ (decide ((i : Int) < (ml : Int)) = true ∧ i < ml) ∧ decide ((i : Int) < 10) = false ∧ ¬ (i : Int) < 10 := by
                  by_cases hm : i < ml
                  · exact .inr ⟨⟨decide_eq_true (by omega), hm⟩, decide_eq_false (by omega), by omega⟩
                  · exact .inl ⟨decide_eq_false (by omega), hm⟩
                have hmz : ((ml : Int) == 0) = false := by rw [beq_eq_false_iff_ne]; omega
                have HCW : Hid (Calls Tryz.prog 30 #[.pointer (some ⟨C, 0, none⟩)] wr fun e w' => e = .returned (.int .i64 H) ∧ wr = w') := Lib.hid (by
                  have h1 := winCwnd_any s RttS.zero C D wr hs1.out.2
                  rw [hs1.out.1.c] at h1
                  exact h1)
                clear hm0 hip hl hst
                obtain ⟨wU, rfl⟩ : ∃ wU : World, wU = wr := ⟨_, rfl⟩
                rcases hdc with ⟨hd1, hn1⟩ | ⟨⟨hd1, hn1⟩, hd2, hn2⟩
                all_goals
                  go_wp2_with (go_at_call 30; (with_reducible refine HCW.out.mono ?_); rintro e w7 ⟨rfl, rfl⟩)
                  clear hd1 hmz HCW
                  try clear hd2
                  go_loopw [17] (fun _ wr => ∃ (s : WinS) (pp : Int), 0 ≤ pp ∧ pp ≤ 43 ∧ Hid (HlS H pp L s ∧ WinAt s RttS.zero C D wr) ∧ Hid (Below w.heap.size w wr)) (fun _ wr => pipM C wr)
                  case atStart => exact ⟨s, pp, p1, p2, hs1, hbw⟩
                  case round =>
                    clear hs1 hbw p1 p2
                    obtain ⟨s, pp, p1, p2, hs, hbw⟩ := hrel
                    have HMY : Hid (Calls Tryz.prog 35 #[.pointer (some ⟨C, 0, none⟩)] wr fun e w' => e = .returned (.bool (decide (pp < H))) ∧ ∃ n, w' = wr.drewN n) := Lib.hid (by
                      have h1 := winMay_any s RttS.zero C D wr hs.out.2
                      rw [hs.out.1.p, hs.out.1.c] at h1
                      exact h1)
                    obtain ⟨wV, rfl⟩ : ∃ wV : World, wV = wr := ⟨_, rfl⟩
                    by_cases hpH : pp < H
                    · rw [decide_eq_true hpH] at HMY
                      have HSE : Hid (∀ k, Calls Tryz.prog 33 #[.pointer (some ⟨C, 0, none⟩), .int .u64 1500, .int .i64 0] (wV.drewN k) fun e w' => e = .returned (.bool true) ∧ WinAt (s.sent 1500 (M.winDue 0 RttS.zero.rto)) RttS.zero C D w' ∧ Kept [C] (wV.drewN k) w') := Lib.hid (fun k => winSent_yes s hs.out.1.ok (by rw [hs.out.1.p, hs.out.1.c]; exact hpH) RttS.zero RttS.ok_zero 1500 (by decide) 0 (by decide) C D _ (hs.out.2.drewN k))
                      obtain ⟨s3, hs3⟩ : ∃ s3, s.sent 1500 (M.winDue 0 RttS.zero.rto) = s3 := ⟨_, rfl⟩
                      have h3 : s3.ok ∧ s3.cwnd = H ∧ s3.count = 0 ∧ s3.hk = true ∧ s3.hn = L ∧ s3.ln = 1500 := by
                        obtain ⟨⟨o0, o1, o2, o3, o4, o5⟩, g1, g2, g3, g4, g5, g6, g7, g8⟩ := hs.out.1
                        rw [← hs3]
                        unfold WinS.sent
                        split
                        · exact ⟨⟨o0, o1, by simp only; omega, o3, by simp only; omega, o5⟩, g1, g4, g8, g7, rfl⟩
                        · exact ⟨⟨o0, o1, by simp only; omega, o3, by simp only; omega, o5⟩, g1, g4, g8, g7, rfl⟩
                      rw [hs3] at HSE
                      have H3 := Lib.hid h3
                      obtain ⟨Q, hQ⟩ : ∃ Q, max (H / 2) 1 = Q := ⟨_, rfl⟩
                      obtain ⟨q0, hq0⟩ : ∃ q : Int, H / 2 = q := ⟨_, rfl⟩
                      have hqd : H.tdiv 2 = q0 := by rw [Int.tdiv_eq_ediv_of_nonneg (by omega)]; exact hq0
                      obtain ⟨v1, v2, v3, v4, v5⟩ := mxi q0 1 Q (by rw [← hq0]; exact hQ)
                      have HQF : Hid ((Q == max (wrap64 q0) 1) = true) := Lib.hid (by
                        rw [show wrap64 q0 = q0 by unfold wrap64; omega, v2, beq_iff_eq])
                      have HX : Hid (∀ W, Calls Tryz.prog 31 #[.agg #[.int .i64 0, .int .i64 0, .int .i64 1, .int .i64 0, .int .i64 0, .int .u64 1500, .int .i64 (-1), .int .i64 0]] W fun e w' => ∃ p c, e = .returned (.tuple #[.agg #[.slice none 0 0, .slice none 0 0, .slice p 1 c, .int .i64 0, .int .i64 (-1)], .agg #[.slice none 0 0, .slice none 0 0, .slice p 1 c, .int .i64 0, .int .i64 (-1)]]) ∧ Below W.heap.size W w' ∧ w'.ownsRow (W.heap.size + 5) 22 1 (.slice p 1 c) 1 [.int .u64 ((1500 : Nat) : Int)]) := Lib.hid (fun W => heardX 1500 (by decide) W)
                      clear h3 hs3 hs hQ
                      go_upto_region 32 with (first
                        | (go_at_call 35; (with_reducible refine HMY.out.mono ?_); rintro e w7 ⟨rfl, k7, rfl⟩)
                        | (go_at_call 33; (with_reducible refine (HSE.out _).mono ?_); rintro e w8 ⟨rfl, hw8, hk8⟩))
                      have hwat := hw8
                      have hbw8 : Hid (Below w.heap.size w w8) := Lib.hid (kb2 (bel_trans hbw.out (bel_drewN _ _)) (hk8.more (by simp)) HNE.out.1 HNE.out.2)
                      clear hw8 hk8 hbw HMY HSE
                      have hbw := hbw8
                      clear hbw8
                      go_upto_region 33 with (go_at_call 31; (with_reducible refine (HX.out _).mono ?_); rintro e w4 ⟨p, q, rfl, hb4, hrow⟩)
                      have HLT : Hid (C < w8.heap.size ∧ D < w8.heap.size) := Lib.hid ⟨hwat.win.lt, BlkIs.lt hwat.rtt⟩
                      have hk : BlkIs #[.slice none 0 0, .slice none 0 0, .slice p 1 q, .int .i64 0, .int .i64 (-1)] 41 w4.heap.size ((w4.alloc (.cells #[.slice none 0 0, .slice none 0 0, .slice p 1 q, .int .i64 0, .int .i64 (-1)] 41)).alloc (.cells #[.slice none 0 0, .slice none 0 0, .slice p 1 q, .int .i64 0, .int .i64 (-1)] 48)) := (BlkIs.new _ _ _).alloc _
                      have hbA : Below w4.heap.size w4 ((w4.alloc (.cells #[.slice none 0 0, .slice none 0 0, .slice p 1 q, .int .i64 0, .int .i64 (-1)] 41)).alloc (.cells #[.slice none 0 0, .slice none 0 0, .slice p 1 q, .int .i64 0, .int .i64 (-1)] 48)) := bel_trans (bel_alloc _ _) (bel_alloc _ _)
                      have hb5 : Below w8.heap.size w8 ((w4.alloc (.cells #[.slice none 0 0, .slice none 0 0, .slice p 1 q, .int .i64 0, .int .i64 (-1)] 41)).alloc (.cells #[.slice none 0 0, .slice none 0 0, .slice p 1 q, .int .i64 0, .int .i64 (-1)] 48)) := bel_trans hb4 hbA
                      have HW5 := Lib.hid (hwat.below hb5)
                      have HB5 : Hid (Below w.heap.size w ((w4.alloc (.cells #[.slice none 0 0, .slice none 0 0, .slice p 1 q, .int .i64 0, .int .i64 (-1)] 41)).alloc (.cells #[.slice none 0 0, .slice none 0 0, .slice p 1 q, .int .i64 0, .int .i64 (-1)] 48))) := Lib.hid (bel_trans hbw.out hb5)
                      have HR5 : Hid (((w4.alloc (.cells #[.slice none 0 0, .slice none 0 0, .slice p 1 q, .int .i64 0, .int .i64 (-1)] 41)).alloc (.cells #[.slice none 0 0, .slice none 0 0, .slice p 1 q, .int .i64 0, .int .i64 (-1)] 48)).ownsRow (w8.heap.size + 5) 22 1 (.slice p 1 q) 1 [.int .u64 ((1500 : Nat) : Int)]) := Lib.hid (ownsRow_keptC hrow ((Kept.refl [] w4).trans' (Kept.of_below [] hbA)) (by simp))
                      clear hrow
                      clear hb4 hb5 hbA
                      generalize ((w4.alloc (.cells #[.slice none 0 0, .slice none 0 0, .slice p 1 q, .int .i64 0, .int .i64 (-1)] 41)).alloc (.cells #[.slice none 0 0, .slice none 0 0, .slice p 1 q, .int .i64 0, .int .i64 (-1)] 48)) = w5 at *
                      generalize w4.heap.size = B at *
                      have x0 : w5.cell? ⟨B, 0, none⟩ = some (.slice none 0 0) := BlkIs.cell hk 0
                      have x1 : w5.cell? ⟨B, 1, none⟩ = some (.slice none 0 0) := BlkIs.cell hk 1
                      have x2 : w5.cell? ⟨B, 2, none⟩ = some (.slice p 1 q) := BlkIs.cell hk 2
                      have x3 : w5.cell? ⟨B, 3, none⟩ = some (.int .i64 0) := BlkIs.cell hk 3
                      have x4 : w5.cell? ⟨B, 4, none⟩ = some (.int .i64 (-1)) := BlkIs.cell hk 4
                      clear hk
                      have HHE := Lib.hid (lost_next s3 H3.out.1 H3.out.2.2.1 H3.out.2.2.2.1 true 1500 (w8.heap.size + 5) (by decide) (by rw [H3.out.2.2.2.2.1]; refine decide_eq_true ?_; have := HLe.out; unfold diffI; omega) p q C D w5 HW5.out HR5.out (by have := HLT.out; omega) (by have := HLT.out; omega))
                      have HCQ : Hid (∀ s2 W, LostS true s3 s2 → WinAt s2 RttS.zero C D W → Calls Tryz.prog 30 #[.pointer (some ⟨C, 0, none⟩)] W fun e w' => e = .returned (.int .i64 Q) ∧ W = w') := Lib.hid (fun s2 W hz hW => by
                        have h1 := winCwnd_any s2 RttS.zero C D W hW
                        rw [hz.c, if_pos rfl, H3.out.2.1, show max (H / 2) 1 = Q by omega] at h1
                        exact h1)
                      clear hwat HX hq0
                      go_upto_region 34 with (go_at_call 32; (with_reducible refine HHE.out.mono ?_); rintro e w6 ⟨s2, rfl, ⟨hs6, hw6⟩, hk6⟩)
                      have HCQ2 := Lib.hid (HCQ.out s2 w6 hs6 hw6)
                      clear x0 x1 x2 x3 x4 hs6 HCQ HHE
                      go_wp2_with (go_at_call 30; (with_reducible refine HCQ2.out.mono ?_); rintro e w7 ⟨rfl, rfl⟩)
                      go_ret
                      rw [HQF.out]
                      exact ⟨rfl, kb2 HB5.out hk6 HNE.out.1 HNE.out.2⟩
                    · rw [decide_eq_false hpH] at HMY
                      have HX : Hid (∀ W, Calls Tryz.prog 31 #[.agg #[.int .i64 0, .int .i64 0, .int .i64 1, .int .i64 0, .int .i64 0, .int .u64 1000, .int .i64 (-1), .int .i64 0]] W fun e w' => ∃ p c, e = .returned (.tuple #[.agg #[.slice none 0 0, .slice none 0 0, .slice p 1 c, .int .i64 0, .int .i64 (-1)], .agg #[.slice none 0 0, .slice none 0 0, .slice p 1 c, .int .i64 0, .int .i64 (-1)]]) ∧ Below W.heap.size W w' ∧ w'.ownsRow (W.heap.size + 5) 22 1 (.slice p 1 c) 1 [.int .u64 ((1000 : Nat) : Int)]) := Lib.hid (fun W => heardX 1000 (by decide) W)
                      go_upto_region 29 with (go_at_call 35; (with_reducible refine HMY.out.mono ?_); rintro e w7 ⟨rfl, k7, rfl⟩)
                      have hwat := hs.out.2.drewN k7
                      have hbw8 : Hid (Below w.heap.size w (wV.drewN k7)) := Lib.hid (bel_trans hbw.out (bel_drewN _ _))
                      have hm1 := pipM_at hs.out.2.cells.2.2.1
                      rw [hs.out.1.p] at hm1
                      have HM1 := Lib.hid hm1
                      clear hbw hm1 HMY
                      have hbw := hbw8
                      clear hbw8
                      generalize wV.drewN k7 = w8 at *
                      have HLT : Hid (C < w8.heap.size ∧ D < w8.heap.size) := Lib.hid ⟨hwat.win.lt, BlkIs.lt hwat.rtt⟩
                      go_upto_region 30 with (go_at_call 31; (with_reducible refine (HX.out _).mono ?_); rintro e w4 ⟨p, q, rfl, hb4, hrow⟩)
                      have hk : BlkIs #[.slice none 0 0, .slice none 0 0, .slice p 1 q, .int .i64 0, .int .i64 (-1)] 41 w4.heap.size ((w4.alloc (.cells #[.slice none 0 0, .slice none 0 0, .slice p 1 q, .int .i64 0, .int .i64 (-1)] 41)).alloc (.cells #[.slice none 0 0, .slice none 0 0, .slice p 1 q, .int .i64 0, .int .i64 (-1)] 48)) := (BlkIs.new _ _ _).alloc _
                      have hbA : Below w4.heap.size w4 ((w4.alloc (.cells #[.slice none 0 0, .slice none 0 0, .slice p 1 q, .int .i64 0, .int .i64 (-1)] 41)).alloc (.cells #[.slice none 0 0, .slice none 0 0, .slice p 1 q, .int .i64 0, .int .i64 (-1)] 48)) := bel_trans (bel_alloc _ _) (bel_alloc _ _)
                      have hb5 : Below w8.heap.size w8 ((w4.alloc (.cells #[.slice none 0 0, .slice none 0 0, .slice p 1 q, .int .i64 0, .int .i64 (-1)] 41)).alloc (.cells #[.slice none 0 0, .slice none 0 0, .slice p 1 q, .int .i64 0, .int .i64 (-1)] 48)) := bel_trans hb4 hbA
                      have HW5 := Lib.hid (hwat.below hb5)
                      have HB5 : Hid (Below w.heap.size w ((w4.alloc (.cells #[.slice none 0 0, .slice none 0 0, .slice p 1 q, .int .i64 0, .int .i64 (-1)] 41)).alloc (.cells #[.slice none 0 0, .slice none 0 0, .slice p 1 q, .int .i64 0, .int .i64 (-1)] 48))) := Lib.hid (bel_trans hbw.out hb5)
                      have HR5 : Hid (((w4.alloc (.cells #[.slice none 0 0, .slice none 0 0, .slice p 1 q, .int .i64 0, .int .i64 (-1)] 41)).alloc (.cells #[.slice none 0 0, .slice none 0 0, .slice p 1 q, .int .i64 0, .int .i64 (-1)] 48)).ownsRow (w8.heap.size + 5) 22 1 (.slice p 1 q) 1 [.int .u64 ((1000 : Nat) : Int)]) := Lib.hid (ownsRow_keptC hrow ((Kept.refl [] w4).trans' (Kept.of_below [] hbA)) (by simp))
                      clear hrow
                      clear hb4 hb5 hbA
                      generalize ((w4.alloc (.cells #[.slice none 0 0, .slice none 0 0, .slice p 1 q, .int .i64 0, .int .i64 (-1)] 41)).alloc (.cells #[.slice none 0 0, .slice none 0 0, .slice p 1 q, .int .i64 0, .int .i64 (-1)] 48)) = w5 at *
                      generalize w4.heap.size = B at *
                      have x0 : w5.cell? ⟨B, 0, none⟩ = some (.slice none 0 0) := BlkIs.cell hk 0
                      have x1 : w5.cell? ⟨B, 1, none⟩ = some (.slice none 0 0) := BlkIs.cell hk 1
                      have x2 : w5.cell? ⟨B, 2, none⟩ = some (.slice p 1 q) := BlkIs.cell hk 2
                      have x3 : w5.cell? ⟨B, 3, none⟩ = some (.int .i64 0) := BlkIs.cell hk 3
                      have x4 : w5.cell? ⟨B, 4, none⟩ = some (.int .i64 (-1)) := BlkIs.cell hk 4
                      clear hk
                      have HHE := Lib.hid (lost_next s hs.out.1.ok hs.out.1.k hs.out.1.hk false 1000 (w8.heap.size + 5) (by decide) (by rw [hs.out.1.eh]; refine decide_eq_false ?_; have := HLe.out; unfold diffI; omega) p q C D w5 HW5.out HR5.out (by have := HLT.out; omega) (by have := HLT.out; omega))
                      clear hwat HX
                      go_wp2_with (go_at_call 32; (with_reducible refine HHE.out.mono ?_); rintro e w6 ⟨s2, rfl, ⟨hs6, hw6⟩, hk6⟩)
                      have hs7 := hs.out.1.of_next hs6
                      have hm2 := pipM_at hw6.cells.2.2.1
                      rw [hs7.p] at hm2
                      refine ⟨⟨s2, max (pp - 1) 0, by omega, by omega, Lib.hid ⟨hs7, hw6⟩, Lib.hid (kb2 HB5.out hk6 HNE.out.1 HNE.out.2)⟩, ?_⟩
                      rw [hm2, HM1.out]
                      omega
end Go.Proofs.YtljlgbjbhokhlaaGreatDoor
