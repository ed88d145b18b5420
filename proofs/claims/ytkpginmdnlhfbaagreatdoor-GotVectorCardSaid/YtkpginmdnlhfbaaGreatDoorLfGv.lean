/-
  What the laid table of the weights says.
  Rows of numbers, and of pairs of numbers, that came in as arguments, opened.
  What was got, put in any order below 250; a map of the law's own from numbers to bools.
  The law GotVector, walked.
-/
import Derived.Test.YtkpginmdnlhfbaaGreatDoorIvalA
import Derived.Test.YtkpginmdnlhfbaaGreatDoorRows
import Derived.Lib.LaidU8
import Derived.Lib.LaidTab
import Derived.MakeChecks
import Derived.OpenShut
import Derived.Test.YtkpginmdnlhfbaaGreatDoorIntR
import Derived.Test.YtkpginmdnlhfbaaGreatDoorVecB
import Derived.ChangeSlices
import Derived.ChangeSame
import Derived.Deep.Slices
import Derived.Deep.SlicePairs
import Derived.Test.YtkpginmdnlhfbaaGreatDoorLfGu
import Derived.Maps.Own
import Derived.Maps.Views
import Derived.Test.YtkpginmdnlhfbaaGreatDoorVecG
import Derived.Test.YtkpginmdnlhfbaaGreatDoorBegun8
import Derived.BigQuiet
import Derived.Carry
import Derived.Deep.QuietTactic
import Derived.Deep.RegionWith
namespace Go.Proofs.YtkpginmdnlhfbaaGreatDoor
open Go.ChangeShapes Go.WideShapes Go.ChangeAt Go.RowKit
set_option linter.unusedVariables false
set_option linter.unusedSimpArgs false

theorem tabW_laid {W : World} {l : List (String × DataW Unit)} (h : laidMet Tryz.prog l W) (hm : ("muleteer/ival.weights", (Rows.laid_muleteer_ival_weights : DataW Unit)) ∈ l) : TabW W := by
  obtain ⟨ps, h, _⟩ := h
  obtain ⟨g, t, cs, fuel, p, hg, ht, hvar, hd⟩ := Lib.LaidVars_reads h _ _ hm
  rw [show (Rows.laid_muleteer_ival_weights : DataW Unit) = Lib.tabData .u64 [5, 5, 5, 5, 4, 3, 2, 1] by kernel_rfl] at hd
  have e : Tryz.prog.globalNamed "muleteer/ival.weights" = some 2 := by kernel_rfl
  obtain rfl := Option.some.inj (e.symm.trans hg)
  obtain rfl : t = 212 := (Option.some.inj ((show (Tryz.prog.globals[2]?).map (·.type) = some 212 by kernel_rfl).symm.trans ht)).symm
  have hc := Lib.cells_of_tab Tryz.underlying212 Tryz.underlying22 (by kernel_rfl) (by kernel_rfl) hd
  obtain ⟨cl⟩ := cs
  simp only at hc
  subst hc
  intro i hi
  have h1 := World.var?_cell e hvar i
  rw [h1]
  obtain rfl | rfl | rfl | rfl | rfl | rfl | rfl | rfl : i = 0 ∨ i = 1 ∨ i = 2 ∨ i = 3 ∨ i = 4 ∨ i = 5 ∨ i = 6 ∨ i = 7 := by omega
  all_goals rfl
end Go.Proofs.YtkpginmdnlhfbaaGreatDoor

namespace Go.Proofs.YtkpginmdnlhfbaaGreatDoor
open Go.ChangeShapes Go.WideShapes Go.Deep Go.RowKit
set_option linter.unusedVariables false

theorem addr_plain {w : World} {a : Addr} {v : Value} (h : w.cell? (a.add 0) = some v) : ∃ b o, a = ⟨b, o, none⟩ ∧ b < w.heap.size := by
  have e : a.add 0 = a := by unfold Addr.add; split <;> simp_all
  rw [e] at h
  have hs : a.spot = none := by
    unfold World.cell? at h
    split at h
    · cases hsp : a.spot with
      | none => rfl
      | some x => rw [hsp] at h; simp at h
    · cases h
  have hb := World.block_lt_of_cell? w a h
  obtain ⟨b, o, sp⟩ := a
  simp only at hs
  subst hs
  exact ⟨b, o, rfl, hb⟩
theorem add_plain (b o k : Nat) : (⟨b, o, none⟩ : Addr).add k = ⟨b, o + k, none⟩ := by unfold Addr.add; split <;> simp_all

theorem open_row {H : Type} {enc : TypeId × Value → H} {W : World} {t e : TypeId} {k : IntKind} {p : Option Addr} {n c : Nat} {d : DataW H} {q : List MemPlace}
    (ht : Tryz.prog.underlying t = some (.slice e)) (he : Tryz.prog.underlying e = some (.int k)) (hc : Tryz.prog.cellsOf e = 1)
    (h : DataW.Trod enc Tryz.prog W 0 (fun _ => true) true t (.slice p n c) d q) :
    n ≤ c ∧ c ≤ 9223372036854775807 ∧ ∃ zs : List Int, n ≤ zs.length ∧ (∀ z ∈ zs, (Lit.int k z).wf = true) ∧ ∀ i, i < n → ∃ b o, p = some ⟨b, o, none⟩ ∧ b < W.heap.size ∧ W.cell? ⟨b, o + i, none⟩ = some (.int k (zs.getD i 0)) := by
  obtain ⟨fuel, hf⟩ := h
  rcases open_ints ht he hc hf with ⟨hcs, hx⟩ | ⟨a, len', cap', zs, hcs, _, hl, hm, hz, hx, hcell, hwz⟩
  · simp [Value.cells] at hcs
    obtain ⟨rfl, rfl, rfl⟩ := hcs
    exact ⟨by omega, by omega, [], by simp, by simp, fun i hi => absurd hi (Nat.not_lt_zero i)⟩
  · simp [Value.cells] at hcs
    obtain ⟨rfl, rfl, rfl⟩ := hcs
    simp only [if_true] at hz
    have hm' : c ≤ 9223372036854775807 := hm
    refine ⟨hl, hm', zs, by omega, hwz, fun i hi => ?_⟩
    obtain ⟨b, o, rfl, hb⟩ := addr_plain (hcell 0 (by omega))
    have h1 := hcell i (by omega)
    rw [add_plain] at h1
    exact ⟨b, o, rfl, hb, h1⟩

theorem getD_take_lt {α : Type} (l : List α) (d : α) (m i : Nat) (h : i < m) : (l.take m).getD i d = l.getD i d := by
  rw [List.getD_eq_getElem?_getD, List.getD_eq_getElem?_getD, List.getElem?_take, if_pos h]
theorem getD_prop {α : Type} {P : α → Prop} {l : List α} {d : α} (h : ∀ z ∈ l, P z) (hd : P d) (i : Nat) : P (l.getD i d) := by
  rw [List.getD_eq_getElem?_getD]
  by_cases hi : i < l.length
  · rw [List.getElem?_eq_getElem hi]; exact h _ (List.getElem_mem _)
  · rw [List.getElem?_eq_none (by omega)]; exact hd

/-- Its first m numbers, signed. -/
theorem open_i64s {H : Type} {enc : TypeId × Value → H} {W : World} {t e : TypeId} {p : Option Addr} {n c : Nat} {d : DataW H} {q : List MemPlace} (m : Nat) (hm : m ≤ 1073741824)
    (ht : Tryz.prog.underlying t = some (.slice e)) (he : Tryz.prog.underlying e = some (.int .i64)) (hc : Tryz.prog.cellsOf e = 1)
    (h : DataW.Trod enc Tryz.prog W 0 (fun _ => true) true t (.slice p n c) d q) :
    n ≤ c ∧ c ≤ 9223372036854775807 ∧ ∃ l : List Int, l.length = min n m ∧ I64At W (.slice p l.length c) l := by
  obtain ⟨h1, h2, zs, h3, h4, h5⟩ := open_row ht he hc h
  have hl : (zs.take (min n m)).length = min n m := by rw [List.length_take]; omega
  refine ⟨h1, h2, zs.take (min n m), hl, ⟨p, c, rfl, by omega, h2, fun i hi => ?_⟩, by omega, fun i => ?_⟩
  · rw [getD_take_lt _ _ _ _ (by omega)]
    exact h5 i (by omega)
  · exact getD_prop (P := fun z => -9223372036854775808 ≤ z ∧ z ≤ 9223372036854775807) (fun z hz => bounds_i64 (h4 z (List.mem_of_mem_take hz))) (by decide) i
/-- All its numbers, signed. -/
theorem open_i64w {H : Type} {enc : TypeId × Value → H} {W : World} {t e : TypeId} {p : Option Addr} {n c : Nat} {d : DataW H} {q : List MemPlace}
    (ht : Tryz.prog.underlying t = some (.slice e)) (he : Tryz.prog.underlying e = some (.int .i64)) (hc : Tryz.prog.cellsOf e = 1)
    (h : DataW.Trod enc Tryz.prog W 0 (fun _ => true) true t (.slice p n c) d q) :
    n ≤ c ∧ c ≤ 9223372036854775807 ∧ ∃ l : List Int, l.length = n ∧ ∀ i, i < l.length → ∃ b o, p = some ⟨b, o, none⟩ ∧ b < W.heap.size ∧ W.cell? ⟨b, o + i, none⟩ = some (.int .i64 (l.getD i 0)) := by
  obtain ⟨h1, h2, zs, h3, h4, h5⟩ := open_row ht he hc h
  have hl : (zs.take n).length = n := by rw [List.length_take]; omega
  refine ⟨h1, h2, zs.take n, hl, fun i hi => ?_⟩
  rw [getD_take_lt _ _ _ _ (by omega)]
  exact h5 i (by omega)
/-- Its first m numbers, without a sign. -/
theorem open_u64s {H : Type} {enc : TypeId × Value → H} {W : World} {t e : TypeId} {p : Option Addr} {n c : Nat} {d : DataW H} {q : List MemPlace} (m : Nat) (hm : m ≤ 1073741824)
    (ht : Tryz.prog.underlying t = some (.slice e)) (he : Tryz.prog.underlying e = some (.int .u64)) (hc : Tryz.prog.cellsOf e = 1)
    (h : DataW.Trod enc Tryz.prog W 0 (fun _ => true) true t (.slice p n c) d q) :
    n ≤ c ∧ c ≤ 9223372036854775807 ∧ ∃ l : List Nat, l.length = min n m ∧ U64At W (.slice p l.length c) l := by
  obtain ⟨h1, h2, zs, h3, h4, h5⟩ := open_row ht he hc h
  have hb : ∀ i, 0 ≤ zs.getD i 0 ∧ zs.getD i 0 ≤ 18446744073709551615 := fun i => getD_prop (P := fun z => 0 ≤ z ∧ z ≤ 18446744073709551615) (fun z hz => bounds_u64 (h4 z hz)) (by decide) i
  have hl : ((zs.take (min n m)).map Int.toNat).length = min n m := by rw [List.length_map, List.length_take]; omega
  have hg : ∀ i, i < min n m → ((((zs.take (min n m)).map Int.toNat).getD i 0 : Nat) : Int) = zs.getD i 0 := fun i hi => by
    have h6 := hb i
    rw [List.getD_eq_getElem?_getD] at h6
    rw [List.getD_eq_getElem?_getD, List.getD_eq_getElem?_getD, List.getElem?_map, List.getElem?_take, if_pos hi]
    have hz : i < zs.length := by omega
    rw [List.getElem?_eq_getElem hz] at h6 ⊢
    simp only [Option.getD_some, Option.map_some] at h6 ⊢
    omega
  refine ⟨h1, h2, (zs.take (min n m)).map Int.toNat, hl, ⟨p, c, rfl, by omega, h2, fun i hi => ?_⟩, by omega, fun i => ?_⟩
  · rw [hg i (by omega)]
    exact h5 i (by omega)
  · by_cases hi : i < min n m
    · have h6 := hb i
      have h7 := hg i hi
      omega
    · rw [List.getD_eq_getElem?_getD, List.getElem?_eq_none (by omega)]
      decide

/-- A row of pairs of numbers, whole. -/
theorem open_pairs {H : Type} {enc : TypeId × Value → H} {W : World} {t e : TypeId} {f0 f1 : Field} {p : Option Addr} {n c : Nat} {d : DataW H} {q : List MemPlace}
    (ht : Tryz.prog.underlying t = some (.slice e)) (he : Tryz.prog.underlying e = some (.struct #[f0, f1])) (ce : Tryz.prog.cellsOf e = 2) (o0 : f0.offset = 0) (o1 : f1.offset = 1) (c0 : Tryz.prog.cellsOf f0.type = 1) (c1 : Tryz.prog.cellsOf f1.type = 1)
    (u0 : Tryz.prog.underlying f0.type = some (.int .i64)) (u1 : Tryz.prog.underlying f1.type = some (.int .i64))
    (h : DataW.Trod enc Tryz.prog W 0 (fun _ => true) true t (.slice p n c) d q) :
    n ≤ c ∧ c ≤ 9223372036854775807 ∧ ∃ l : List Cel, l.length = n ∧ (∀ x ∈ l, -9223372036854775808 ≤ x.2 ∧ x.2 ≤ 9223372036854775807) ∧
      ∀ i, i < l.length → ∃ b o, p = some ⟨b, o, none⟩ ∧ b < W.heap.size ∧ W.cell? ⟨b, o + i * 2, none⟩ = some (.int .i64 (l.getD i (0, 0)).1) ∧ W.cell? ⟨b, o + i * 2 + 1, none⟩ = some (.int .i64 (l.getD i (0, 0)).2) := by
  obtain ⟨fuel, hf⟩ := h
  rcases open_slice_pairs ht he ce o0 o1 c0 c1 hf with ⟨hcs, hx⟩ | ⟨a, len, cap, m, n', V0, V1, D0, D1, P0, P1, hcs, _, hl, hm, hmm, hx, hi⟩
  · simp [Value.cells] at hcs
    obtain ⟨rfl, rfl, rfl⟩ := hcs
    exact ⟨by omega, by omega, [], rfl, by simp, fun i hi => absurd hi (Nat.not_lt_zero i)⟩
  · simp [Value.cells] at hcs
    obtain ⟨rfl, rfl, rfl⟩ := hcs
    have hm' : c ≤ 9223372036854775807 := hm
    simp only [if_true] at hmm
    have key : ∀ i, i < n → ∃ x : Cel, V0 i = .int .i64 x.1 ∧ V1 i = .int .i64 x.2 ∧ (-9223372036854775808 ≤ x.2 ∧ x.2 ≤ 9223372036854775807) := by
      intro i hin
      obtain ⟨_, _, k0, k1⟩ := hi i (by omega)
      obtain ⟨z0, hz0, _, _⟩ := DataW.trod_int u0 k0
      obtain ⟨z1, hz1, _, hw1⟩ := DataW.trod_int u1 k1
      simp at hz0 hz1
      exact ⟨(z0, z1), hz0, hz1, bounds_i64 hw1⟩
    have hlist : ∀ m', m' ≤ n → ∃ l : List Cel, l.length = m' ∧ (∀ x ∈ l, -9223372036854775808 ≤ x.2 ∧ x.2 ≤ 9223372036854775807) ∧ ∀ i, i < m' → V0 i = .int .i64 (l.getD i (0, 0)).1 ∧ V1 i = .int .i64 (l.getD i (0, 0)).2 := by
      intro m'
      induction m' with
      | zero => exact fun _ => ⟨[], rfl, by simp, fun i hi => absurd hi (Nat.not_lt_zero i)⟩
      | succ m' ih =>
        intro hmn
        obtain ⟨l, hl1, hl2, hl3⟩ := ih (by omega)
        obtain ⟨x, hx0, hx1, hx2⟩ := key m' (by omega)
        refine ⟨l ++ [x], by simp [hl1], fun y hy => ?_, fun i hi' => ?_⟩
        · rcases List.mem_append.1 hy with h8 | h8
          · exact hl2 y h8
          · rw [List.mem_singleton.1 h8]; exact hx2
        · by_cases e' : i < m'
          · have h9 := hl3 i e'
            rw [List.getD_eq_getElem?_getD] at h9 ⊢
            rwa [List.getElem?_append_left (by omega)]
          · obtain rfl : i = m' := by omega
            rw [List.getD_eq_getElem?_getD, List.getElem?_append_right (by omega), hl1]
            simpa using ⟨hx0, hx1⟩
    obtain ⟨l, hl1, hl2, hl3⟩ := hlist n (Nat.le_refl _)
    refine ⟨hl, hm', l, hl1, hl2, fun i hi' => ?_⟩
    have h0 := (hi 0 (by omega)).1
    rw [Nat.zero_mul] at h0
    obtain ⟨b, o, rfl, hb⟩ := addr_plain h0
    obtain ⟨h6, h7, _, _⟩ := hi i (by omega)
    obtain ⟨h8, h9⟩ := hl3 i (by omega)
    rw [add_plain] at h6 h7
    rw [h8] at h6
    rw [h9] at h7
    exact ⟨b, o, rfl, hb, h6, h7⟩
end Go.Proofs.YtkpginmdnlhfbaaGreatDoor

namespace Go.Proofs.YtkpginmdnlhfbaaGreatDoor
open Go.ChangeShapes Go.WideShapes Go.ChangeAt Go.RowKit
set_option linter.unusedVariables false
set_option linter.unusedSimpArgs false

/-- The number i steps on. -/
def vS (first i : Nat) : Nat := (first + i) % 281474976710656
theorem vS_step (first i : Nat) : stepI first (i : Int) = (vS first i : Int) := by unfold stepI vS; omega
theorem vS_lt (first i : Nat) : vS first i < 281474976710656 := Nat.mod_lt _ (by decide)
theorem vS_diff (first j k : Nat) (hj : j ≤ 1000) (hk : k ≤ 1000) : diffI (vS first j) (vS first k) = (j : Int) - (k : Int) := by unfold diffI vS; omega
def gotV (b : Bool) : Int := if b then 0 else 3
/-- Which of the numbers up to top were got. -/
structure GvI (sn : Nat → Bool) (top : Nat) (l : List Int) : Prop where
  len : l.length = top + 1
  get : ∀ j, j ≤ top → l[j]? = some (gotV (sn (top - j)))
  zero : sn 0 = true
  out : ∀ x, top < x → sn x = false
def upd (sn : Nat → Bool) (x : Nat) : Nat → Bool := fun y => if y = x then true else sn y
theorem gvPut {first top x : Nat} {sn : Nat → Bool} {l : List Int} (hI : GvI sn top l) (ht : top ≤ 240) (hx : x ≤ 240) (C g cap : Nat) (w : World) (h : GotR (vS first top) l 0 false C g cap w) :
    Calls Tryz.prog 15 #[.pointer (some ⟨C, 0, none⟩), .int .u64 (vS first x), .bool false] w fun e w' => e = .returned (.bool (!sn x)) ∧ ∃ l' g2 cap2, GvI (upd sn x) (max top x) l' ∧ GotR (vS first (max top x)) l' 0 false C g2 cap2 w' ∧ (g2 = g ∨ w.heap.size ≤ g2) ∧ Kept [C, g] w w' := by
  have h1 := vS_lt first top
  have h2 := vS_lt first x
  have hlen := hI.len
  by_cases hlt : top < x
  · -- newer
    obtain ⟨d, hd⟩ : ∃ d, x = top + d := ⟨x - top, by omega⟩
    have hlead : leadL l d (stOf false) = (List.replicate d 3 ++ l).set 0 0 := by
      unfold leadL
      rw [List.take_of_length_le (by rw [List.length_append, List.length_replicate]; omega)]
      rfl
    have hll : (leadL l d (stOf false)).length = x + 1 := by rw [hlead, List.length_set, List.length_append, List.length_replicate]; omega
    have hget : ∀ j, j ≤ x → (leadL l d (stOf false))[j]? = some (gotV (upd sn x (x - j))) := fun j hj => by
      rw [hlead, List.getElem?_set]
      by_cases h0 : 0 = j
      · subst h0
        rw [if_pos rfl, if_pos (by rw [List.length_append, List.length_replicate]; omega)]
        unfold upd
        rw [if_pos (by omega)]
        rfl
      · rw [if_neg h0]
        unfold upd
        rw [if_neg (by omega)]
        by_cases hjd : j < d
        · rw [List.getElem?_append_left (by simpa using hjd), List.getElem?_replicate, if_pos hjd, hI.out (x - j) (by omega)]
          rfl
        · rw [List.getElem?_append_right (by simpa using hjd), List.length_replicate, hI.get (j - d) (by omega), show top - (j - d) = x - j by omega]
    refine (gotPut_leadR (vS first top) (by omega) l (by omega) (by omega) 0 (by decide) false (vS first x) (by omega) rfl d (by rw [vS_diff first top x (by omega) (by omega)]; omega) (by omega) (by omega) d (by omega) false (vS first x) (Nat.mod_eq_of_lt h2) C g cap w h).mono ?_
    rintro e w' ⟨rfl, g2, cap2, m, h3, h4, _, h6, h7⟩
    have hm : m = x + 1 := by
      have hle := h4.le
      rw [hll] at hle
      rcases Nat.lt_or_ge m (x + 1) with h8 | h8
      · have h9 := h4.lost x (by omega) (by omega)
        rw [hget x (Nat.le_refl _), Nat.sub_self] at h9
        unfold upd at h9
        rw [if_neg (by omega), hI.zero] at h9
        cases h9
      · omega
    rw [hm, List.take_of_length_le (by omega)] at h3
    rw [show max top x = x by omega, hI.out x hlt]
    exact ⟨rfl, _, g2, cap2, ⟨hll, hget, by unfold upd; rw [if_neg (by omega)]; exact hI.zero, fun y hy => by unfold upd; rw [if_neg (by omega)]; exact hI.out y (by omega)⟩, h3, h6, h7⟩
  · obtain ⟨a, ha⟩ : ∃ a, top = x + a := ⟨top - x, by omega⟩
    have hdf : diffI (vS first top) (vS first x) = (a : Int) := by rw [vS_diff first top x (by omega) (by omega)]; omega
    have hga := hI.get a (by omega)
    rw [show top - a = x by omega] at hga
    rw [show max top x = top by omega]
    by_cases hs : sn x = true
    · rw [hs] at hga ⊢
      refine (gotPut_noR (vS first top) (by omega) l (by omega) 0 (by decide) false (vS first x) (by omega) rfl a hdf (.inr ⟨by omega, _, hga, by decide⟩) (by omega) false C g cap w h).mono ?_
      rintro e w' ⟨rfl, rfl⟩
      have hu : upd sn x = sn := by
        funext y
        unfold upd
        by_cases hy : y = x
        · rw [if_pos hy, hy, hs]
        · rw [if_neg hy]
      rw [hu]
      exact ⟨rfl, l, g, cap, hI, h, .inl rfl, Kept.refl _ _⟩
    · have hs' : sn x = false := by simpa using hs
      rw [hs'] at hga ⊢
      refine (gotPut_fillR (vS first top) (by omega) l (by omega) (by omega) 0 (by decide) false (vS first x) (by omega) rfl a hdf (by omega) (.inr hga) false C g cap w h).mono ?_
      rintro e w' ⟨rfl, g2, cap2, h3, h4, h5⟩
      rw [show a + 1 - l.length = 0 by omega, List.replicate_zero, List.append_nil] at h3
      refine ⟨rfl, _, g2, cap2, ⟨by rw [List.length_set]; exact hlen, fun j hj => ?_, ?_, fun y hy => ?_⟩, h3, h4, h5⟩
      · rw [List.getElem?_set]
        unfold upd
        by_cases hj2 : a = j
        · subst hj2
          rw [if_pos rfl, if_pos (by omega), if_pos (by omega)]
          rfl
        · rw [if_neg hj2, if_neg (by omega)]
          exact hI.get j hj
      · unfold upd
        split
        · rfl
        · exact hI.zero
      · unfold upd
        rw [if_neg (by omega)]
        exact hI.out y hy
/-- The map reads so. -/
def MapS (sn : Nat → Bool) (b cnt : Nat) (w : World) : Prop := ∃ D : DataW Unit, w.ownsMap Tryz.prog 2 (plainElem Tryz.prog 4) b cnt D ∧ Go.Maps.IsMap D ∧ ∀ x : Nat, D.atKey (.int .i64 x) (.lit (.bool false)) = .lit (.bool (sn x))
theorem keyed64 : Go.Maps.Keyed Tryz.prog 2 := Go.Maps.int_keyed Tryz.underlying2
theorem key64 (x : Nat) (hx : x ≤ 1000) : keyOf Tryz.prog 2 (.int .i64 x) = some (.int .i64 x) := by
  have hw : (Lit.int .i64 (x : Int)).wf = true := by first | exact WalkArith.wf_i64 (by omega) | (simp [Lit.wf]; omega)
  first | exact keyOf_int_mk Tryz.underlying2 hw | exact Go.Maps.keyOf_int_mk Tryz.underlying2 hw
theorem zeroBool (w : World) : (zeroValue 4).run Tryz.prog w = .ok (.bool false) w := by kernel_rfl
theorem plainBool (x : Bool) : plainElem (H := Unit) Tryz.prog 4 (.bool x) = some (.lit (.bool x), []) := plainElem_bool Tryz.underlying4 x
set_option maxRecDepth 100000 in
theorem MapS.look {sn : Nat → Bool} {b cnt : Nat} {w : World} (h : MapS sn b cnt w) (x : Nat) (hx : x ≤ 1000) : (Instr.lookup 27 (.map (some b)) (.int .i64 x) false).run Tryz.prog w = .ok (.bool (sn x)) w := by
  obtain ⟨D, h1, _, h3⟩ := h
  obtain ⟨v, ps, hrun, hv⟩ := h1.lookup keyed64 Tryz.underlying27 (zeroBool w) (plainBool false) (key64 x hx)
  rw [h3 x] at hv
  have : v = .bool (sn x) := by
    unfold plainElem at hv
    rw [Tryz.underlying4] at hv
    cases v <;> simp at hv
    rw [hv.1]
  rw [hrun, this]
theorem MapS.kept {sn : Nat → Bool} {b cnt : Nat} {S : List Nat} {w w' : World} (h : MapS sn b cnt w) (k : Kept S w w') (hb : b ∉ S) : MapS sn b cnt w' := by
  obtain ⟨D, h1, h2, h3⟩ := h
  have hlt := h1.lt
  obtain ⟨es, clock, e1, F, hs, hD⟩ := h1
  exact ⟨D, ⟨es, clock, (k.block b hlt hb).trans e1, F, hs, hD⟩, h2, h3⟩
theorem MapS.lt {sn : Nat → Bool} {b cnt : Nat} {w : World} (h : MapS sn b cnt w) : b < w.heap.size := by
  obtain ⟨D, h1, _⟩ := h
  exact h1.lt
theorem MapS.made (w : World) : MapS (fun _ => false) w.heap.size 0 (w.alloc (.map #[] 0)) := ⟨.map [], World.ownsMap_made w _ _ _, Go.Maps.isMap_empty, fun x => rfl⟩
theorem MapS.put {sn : Nat → Bool} {b cnt : Nat} {w : World} (h : MapS sn b cnt w) (hc : cnt ≤ 1000) (x : Nat) (hx : x ≤ 1000) {ops : Array Oper} {rest : List Oper} {o : Oper} {a : Act} {Q : Exit → Act → World → Prop}
    (hg : o.guard = none) (m y v : Operand) (hop : o.op = Op.mapUpdate 27 m y v) (hm : a.eval m = .map (some b)) (hy : a.eval y = .int .i64 x) (hv : a.eval v = .bool true)
    (hK : ∀ w', MapS (upd sn x) b (cnt + 1) w' → Kept [b] w w' → wpList Tryz.prog ops Q rest (a.put o.dst undef) w') : wpList Tryz.prog ops Q (o :: rest) a w := by
  obtain ⟨D, h1, h2, h3⟩ := h
  refine wpList_mapUpdate_own w hg m y v 27 hop 2 4 keyed64 Tryz.underlying27 _ b cnt D hm h1 (by unfold maxLen; omega) _ _ (.int .i64 x) hy hv (key64 x hx) _ _ (plainBool true) ?_
  intro w' ho hgr
  refine hK w' ⟨_, ho, h2.put _ _, fun z => ?_⟩ ((Kept.refl [b] w).grown hgr (fun q hq => .inl (by simp at hq; simp [hq])))
  unfold upd
  by_cases hz : z = x
  · subst hz
    rw [if_pos rfl, Go.Maps.atKey_put_same h2 (by trivial)]
  · rw [if_neg hz, Go.Maps.atKey_put_other (fun e => hz (by injection e with _ e; omega))]
    exact h3 z
end Go.Proofs.YtkpginmdnlhfbaaGreatDoor

namespace Go.Proofs.YtkpginmdnlhfbaaGreatDoor
open Go.ChangeShapes Go.WideShapes Go.ChangeAt Go.RowKit
set_option linter.unusedVariables false
set_option linter.unusedSimpArgs false

/-- What Spread makes of the Cells: the states. -/
theorem gvSpread (R : List Int) (hR : ∀ v ∈ R, v = 0 ∨ v = 3) (hlen : R.length ≤ 250) (H0 : Nat) (v : Value) (w w1 : World) (h1 : CelOwn H0 v (ofR R) w w1) :
    Calls Tryz.prog 17 #[v] w1 fun e w' => ∃ v', e = .returned v' ∧ I64At w' v' R ∧ Below w1.heap.size w1 w' := by
  have hall : R.all stB = true := by
    rw [List.all_eq_true]
    intro z hz
    unfold stB
    rcases hR z hz with rfl | rfl <;> decide
  obtain ⟨f1, f2, f3, f4, f5⟩ := of_facts R hall (by omega)
  have hat : C2At w1 v (ofR R) := h1.at (by omega) (fun i => by
    rw [List.getD_eq_getElem?_getD]
    cases hi : (ofR R)[i]? with
    | none => exact (by decide : -9223372036854775808 ≤ (0 : Int) ∧ (0 : Int) ≤ 9223372036854775807)
    | some c =>
      have := f4 c (List.mem_of_getElem? hi)
      simp only [Option.getD_some]
      omega)
  refine (vecSpread_any v (ofR R) w1 hat).mono ?_
  rintro e w' ⟨v', rfl, hv'⟩
  rw [f2] at hv'
  refine ⟨v', rfl, hv'.at (by omega) (fun i => ?_), hv'.2.1⟩
  rw [List.getD_eq_getElem?_getD]
  cases hi : R[i]? with
  | none => exact (by decide : -9223372036854775808 ≤ (0 : Int) ∧ (0 : Int) ≤ 9223372036854775807)
  | some c =>
    simp only [Option.getD_some]
    rcases hR c (List.mem_of_getElem? hi) with rfl | rfl <;> decide
theorem gvStart : GvI (upd (fun _ => false) 0) 0 [stOf false] := by
  refine ⟨rfl, fun j hj => ?_, rfl, fun x hx => ?_⟩
  · have : j = 0 := by omega
    subst this
    rfl
  · unfold upd
    rw [if_neg (by omega)]
set_option maxHeartbeats 8000000 in
set_option maxRecDepth 100000 in
theorem gotVector_walk (first : Nat) (hfi : first < 18446744073709551616) (p0 : Option Addr) (m0 c0 : Nat) (l0 : List Int) (h0 : m0 ≤ c0) (h0c : c0 ≤ 9223372036854775807) (w : World) (hT : TabW w)
    (hc0 : ∀ i, i < m0 → ∃ b o, p0 = some ⟨b, o, none⟩ ∧ b < w.heap.size ∧ w.cell? ⟨b, o + i, none⟩ = some (.int .i64 (l0.getD i 0))) :
    Calls Tryz.prog 3 #[.int .u64 first, .slice p0 m0 c0] w fun e w' => e = .returned (.bool true) ∧ Below w.heap.size w w' := by
  have HBG : Hid (Calls Tryz.prog 13 #[] w fun e w' => e = .returned (.bool true) ∧ Below w.heap.size w w') := Lib.hid (begun8_any w hT)
  have HC0 := Lib.hid hc0
  clear hT hc0
  obtain ⟨B, hB⟩ : ∃ B, w.heap.size = B := ⟨_, rfl⟩
  have HBe := Lib.hid hB
  have HST : Hid (∀ i : Nat, i ≤ 300 → ∀ W, Calls Tryz.prog 16 #[.int .u64 first, .int .i64 i] W fun e w' => e = .returned (.int .u64 (vS first i : Int)) ∧ W = w') := Lib.hid (fun i hi W => by rw [← vS_step]; exact refStep_any first i hfi (by omega) (by omega) W)
  go_enter Tryz.func3, Tryz.ntmps3
  go_upto_region 5 with (first
    | (go_at_call 13; (with_reducible refine HBG.out.mono ?_); rintro e w0 ⟨rfl, hb0⟩)
    | (go_at_call 14; (with_reducible refine (gotNew_any _).mono ?_); rintro e w1 ⟨C, rfl, hg1, hc1, hb1⟩))
  have HB1 : Hid (Below B w w1) := Lib.hid (by rw [← hB]; exact bel_trans hb0 hb1)
  have HBC : Hid (B ≤ C ∧ C < w1.heap.size) := Lib.hid ⟨by rw [← hB]; exact Nat.le_trans hb0.size hc1, hg1.lt⟩
  have HM1 := Lib.hid (MapS.made w1)
  have HF1 := Lib.hid (gotPut_firstR first hfi false (vS first 0) (by unfold vS; rfl) C (w1.alloc (.map #[] 0)) (hg1.alloc _))
  clear hb0 hg1 hc1 hb1 hB
  have HBM : Hid (Below B w (w1.alloc (.map #[] 0))) := Lib.hid (HB1.out.trans ((bel_alloc w1 _).mono (by rw [← HBe.out]; exact HB1.out.size)))
  have HBm : Hid (B ≤ w1.heap.size ∧ w1.heap.size ≠ C) := Lib.hid ⟨by rw [← HBe.out]; exact HB1.out.size, by have := HBC.out.2; omega⟩
  have hmm := @run_makeMap Tryz.prog
  go_upto_region 7 with fail
  clear hmm HB1
  generalize w1.alloc (.map #[] 0) = wm at *
  have hCb := HBC.out.2
  generalize w1.heap.size = b at *
  go_upto_region 9 with (go_at_call 15; (with_reducible refine HF1.out.mono ?_); rintro e w2 ⟨g, rfl, hg2, hk2, hgg⟩)
  have hm2 := HM1.out.kept hk2 (by have := HBm.out.2; simpa using this)
  have HM2 := Lib.hid hm2
  have HG2 := Lib.hid hg2
  have HB2 : Hid (Below B w w2) := Lib.hid (HBM.out.trans (hk2.below (by have := HBM.out.size; have := HBe.out; omega) (by intro x hx; have := HBC.out.1; simp at hx; omega)))
  have HGb : Hid (B ≤ g ∧ g ≠ b ∧ b < wm.heap.size) := Lib.hid ⟨by have := HBM.out.size; have := HBe.out; omega, by have := HM1.out.lt; omega, HM1.out.lt⟩
  have hwm2 := hk2.size
  clear hm2 hg2 hk2 HM1 HF1 HBM
  go_upto_region 10 with (at_mapUpdate; refine MapS.put HM2.out (by decide) 0 (by decide) rfl _ _ _ rfl rfl rfl rfl ?_; intro w3 hm3 hk3)
  have HI3 := Lib.hid gvStart
  have HM3 := Lib.hid hm3
  have HG3 := Lib.hid (HG2.out.kept hk3 (by have := HBm.out.2; simp; omega) (by have := HGb.out.2.1; simp; omega))
  have HB3 : Hid (Below B w w3) := Lib.hid (HB2.out.trans (hk3.below (by have := HB2.out.size; have := HBe.out; omega) (by intro x hx; have := HBm.out.1; simp at hx; omega)))
  have HS3 : Hid (b ≠ g ∧ b ≠ C ∧ B ≤ b ∧ B ≤ C ∧ b < w3.heap.size) := Lib.hid ⟨fun e => HGb.out.2.1 e.symm, HBm.out.2, HBm.out.1, HBC.out.1, HM3.out.lt⟩
  have HGB3 : Hid (B ≤ g) := Lib.hid HGb.out.1
  clear hm3 hk3 HM2 HG2 HB2 HGb HBm hwm2 hgg
  go_wp2
  go_loopw [8, 9, 10] (fun av tv iv wr => ∃ (i top : Nat) (at_ : Int) (sn : Nat → Bool) (l : List Int) (g cap : Nat), iv = .int .i64 (i : Int) ∧ tv = .int .i64 (top : Int) ∧ av = .int .i64 at_ ∧ i ≤ 40 ∧ top ≤ 5 * i ∧ at_ ≤ 5 * i ∧ -(9 * (i : Int)) ≤ at_ ∧ Hid (GvI sn top l) ∧ Hid (GotR (vS first top) l 0 false C g cap wr) ∧ Hid (MapS sn b (i + 1) wr) ∧ Hid (Below B w wr) ∧ Hid (b ≠ g ∧ B ≤ g)) (fun _ _ iv _ => 40 - (intOf iv).toNat)
  case atStart => exact ⟨0, 0, 0, _, _, g, 1, rfl, rfl, rfl, by omega, by omega, by omega, by omega, HI3, HG3, HM3, HB3, Lib.hid ⟨HS3.out.1, HGB3.out⟩⟩
  case round =>
    clear HI3 HG3 HM3 HB3
    obtain ⟨i, top, at_, sn, l, g, cap, rfl, rfl, rfl, hi, ht, ha1, ha2, hI, hG, hM, hbl, hgb⟩ := hrel
    by_cases hin : i < m0 ∧ i < 40
    · obtain ⟨j0, j2⟩ := hin
      have d0 : decide ((i : Int) < (m0 : Int)) = true := decide_eq_true (by omega)
      have d2 : decide ((i : Int) < 40) = true := decide_eq_true (by omega)
      obtain ⟨b0, o0, rfl, q0, x0⟩ := HC0.out i j0
      have y0 : wr.cell? ⟨b0, o0 + i, none⟩ = some (.int .i64 (l0.getD i 0)) := (hbl.out.cell (p := ⟨b0, o0 + i, none⟩) (by rw [← HBe.out]; exact q0)).trans x0
      obtain ⟨a0, e0, e01, e02, _⟩ := mod_at (l0.getD i 0) 8 (by decide)
      generalize l0.getD i 0 = z0 at *
      obtain ⟨at2, hat2⟩ : ∃ at2 : Int, at_ + (a0 - 2) = at2 := ⟨_, rfl⟩
      clear x0 q0
      by_cases hneg : at2 < 0
      · have d3 : decide (at2 < 0) = true := decide_eq_true hneg
        go_wp2
        refine ⟨⟨i + 1, top, at2, sn, l, g, cap, by go_num, rfl, rfl, by omega, by omega, by omega, by omega, hI, hG, Lib.hid (by obtain ⟨D, h1, h2, h3⟩ := hM.out; exact ⟨D, h1.mono (by omega), h2, h3⟩), hbl, hgb⟩, ?_⟩
        simp [intOf]; omega
      · obtain ⟨x, hx⟩ : ∃ x : Nat, at2 = (x : Int) := ⟨at2.toNat, by omega⟩
        subst hx
        have d3 : decide ((x : Int) < 0) = false := decide_eq_false (by omega)
        have d4 : decide ((250 : Int) ≤ (top : Int) - (x : Int)) = false := decide_eq_false (by omega)
        have HSI := Lib.hid (HST.out x (by omega))
        obtain ⟨T2, hT2⟩ : ∃ T2, max top x = T2 := ⟨_, rfl⟩
        obtain ⟨s, hs⟩ : ∃ s, sn x = s := ⟨_, rfl⟩
        have hne : ((!s) == s) = false := by cases s <;> rfl
        have HPU : Hid (Calls Tryz.prog 15 #[.pointer (some ⟨C, 0, none⟩), .int .u64 (vS first x), .bool false] wr.drew fun e w' => e = .returned (.bool (!s)) ∧ ∃ l' g2 cap2, GvI (upd sn x) T2 l' ∧ GotR (vS first T2) l' 0 false C g2 cap2 w' ∧ (g2 = g ∨ wr.drew.heap.size ≤ g2) ∧ Kept [C, g] wr.drew w') := Lib.hid (by
          have h9 := gvPut hI.out (by omega) (x := x) (by omega) C g cap wr.drew (hG.out.drewN 1)
          rw [hT2, hs] at h9
          exact h9)
        have hM1 : MapS sn b (i + 1) wr.drew := hM.out.kept ((Kept.refl [] wr).drewN 1) (by simp)
        have HLK2 : Hid (∀ W, MapS sn b (i + 1) W → (Instr.lookup 27 (.map (some b)) (.int .i64 x) false).run Tryz.prog W = .ok (.bool s) W) := Lib.hid (fun W hW => by
          have h9 := hW.look x (by omega)
          rw [hs] at h9
          exact h9)
        have hlk1 := HLK2.out wr.drew hM1
        have HM1 := Lib.hid hM1
        have HNB : Hid (b ∉ [C, g]) := Lib.hid (by have := HS3.out.2.1; have := hgb.out.1; simp; omega)
        clear hM hG hI hM1
        go_upto_region 15 with fail
        go_region_with (first
          | (go_at_call 16; (with_reducible refine (HSI.out _).mono ?_); rintro e w4 ⟨rfl, rfl⟩)
          | (go_at_call 15; (with_reducible refine HPU.out.mono ?_); rintro e w4 ⟨rfl, l2, g2, cap2, hI4, hG4, hg4, hk4⟩; have hlk2 := HLK2.out w4 (HM1.out.kept hk4 HNB.out)))
        all_goals
          have HI4 := Lib.hid hI4
          have HG4 := Lib.hid hG4
          have HM4 := Lib.hid (HM1.out.kept hk4 HNB.out)
          have hbr : B ≤ wr.drew.heap.size := by have := hbl.out.size; have := HBe.out; exact Nat.le_trans (by omega) (bel_drewN wr 1).size
          have HB4 : Hid (Below B w w4) := Lib.hid (hbl.out.drew.trans (hk4.below hbr (by intro y hy; have := HS3.out; have := hgb.out; simp at hy; omega)))
          have HGB4 : Hid (b ≠ g2 ∧ B ≤ g2) := Lib.hid (by
            have h8 := HM1.out.lt
            have h9 := hgb.out
            rcases hg4 with rfl | h7
            · exact h9
            · exact ⟨by omega, by omega⟩)
          have HCb : Hid (b ≠ C ∧ B ≤ b) := Lib.hid ⟨HS3.out.2.1, HS3.out.2.2.1⟩
          obtain ⟨r1, r2, r3, r4, r5, r6⟩ := mxs top x T2 hT2
          have r1' : (if (top : Int) < (x : Int) then (x : Int) else (top : Int)) = (T2 : Int) := r1
          have r2' : (if top < x then (x : Int) else (top : Int)) = (T2 : Int) := r2
          have r3' : max (top : Int) (x : Int) = (T2 : Int) := r3
          clear hI4 hG4 hk4 hg4 hlk1 hlk2 HM1 HPU HLK2 hbl hgb HNB HSI y0 hbr r1 r2 r3
          go_upto_region 18 with (at_mapUpdate; refine MapS.put HM4.out (by omega) x (by omega) rfl _ _ _ rfl rfl rfl rfl ?_; intro w5 hm5 hk5)
          have HM5 := Lib.hid hm5
          have HG5 := Lib.hid (HG4.out.kept hk5 (by have := HCb.out.1; simp; omega) (by have := HGB4.out.1; simp; omega))
          have HB5 : Hid (Below B w w5) := Lib.hid (HB4.out.trans (hk5.below (by have := HB4.out.size; have := HBe.out; omega) (by intro y hy; have := HCb.out.2; simp at hy; omega)))
          clear hm5 hk5 HM4 HG4 HB4
          go_wp2
          refine ⟨⟨i + 1, T2, x, upd sn x, l2, g2, cap2, by go_num, rfl, rfl, by omega, by omega, by omega, by omega, HI4, HG5, HM5, HB5, HGB4⟩, ?_⟩
          simp [intOf]; omega
    · have hlen := hI.out.len
      have hR : ∀ v ∈ l, v = 0 ∨ v = 3 := fun v hv => by
        obtain ⟨j, hj, rfl⟩ := List.getElem_of_mem hv
        have h9 := hI.out.get j (by omega)
        rw [List.getElem?_eq_getElem hj] at h9
        injection h9 with h9
        rw [h9]
        unfold gotV
        split
        · exact .inl rfl
        · exact .inr rfl
      have HCE := Lib.hid (gotCells_any (vS first top) l (by omega) (fun v hv => by rcases hR v hv with rfl | rfl <;> decide) 0 false C g cap wr hG.out)
      have HSP := Lib.hid (fun (H0 : Nat) (v : Value) (W W1 : World) (h1 : CelOwn H0 v (ofR l) W W1) => gvSpread l hR (by omega) H0 v W W1 h1)
      have HMR := Lib.hid hM.out
      have HBR := Lib.hid hbl.out
      have HIR := Lib.hid hI.out
      have hB0 : B ≤ wr.heap.size := by have := hbl.out.size; have := HBe.out; omega
      have hl250 : l.length ≤ 250 := by omega
      clear hR hG hM hbl hI
      obtain ⟨N, hN⟩ : ∃ N, l.length = N := ⟨_, rfl⟩
      have hNt : N = top + 1 := by omega
      have hNi : (top : Int) + 1 = (N : Int) := by omega
      have HNT := Lib.hid hNt
      have HN := Lib.hid hN
      have hNB : N ≤ 250 := by omega
      clear hNt hlen hl250 hN
      rcases (show ¬ i < m0 ∨ (i < m0 ∧ ¬ i < 40) by omega) with g0 | ⟨g0, g1⟩
      all_goals (first
        | (have d0 : decide ((i : Int) < (m0 : Int)) = false := decide_eq_false (by omega)
           clear hin
           go_upto_region 20 with (first
             | (go_at_call 18; (with_reducible refine HCE.out.mono ?_); rintro e wc ⟨vc, rfl, hvc⟩)
             | (go_at_call 17; (with_reducible refine (HSP.out _ _ _ _ hvc).mono ?_); rintro e ws ⟨v2, rfl, hv2, hbs⟩; obtain ⟨p2, cap2, hpe, hp1, hp2, hpc⟩ := hv2.at_; rw [HN.out] at hpe; subst hpe))
           clear d0 g0)
        | (have d0 : decide ((i : Int) < (m0 : Int)) = true := decide_eq_true (by omega)
           have d1 : decide ((i : Int) < 40) = false := decide_eq_false (by omega)
           clear hin
           go_upto_region 20 with (first
             | (go_at_call 18; (with_reducible refine HCE.out.mono ?_); rintro e wc ⟨vc, rfl, hvc⟩)
             | (go_at_call 17; (with_reducible refine (HSP.out _ _ _ _ hvc).mono ?_); rintro e ws ⟨v2, rfl, hv2, hbs⟩; obtain ⟨p2, cap2, hpe, hp1, hp2, hpc⟩ := hv2.at_; rw [HN.out] at hpe; subst hpe))
           clear d0 d1 g0 g1))
      all_goals
        have HBS : Hid (Below wr.heap.size wr ws) := Lib.hid (hvc.2.1.trans (hbs.mono hvc.2.1.size))
        have HMS := Lib.hid (HMR.out.kept (Kept.of_below [] HBS.out) (by simp))
        have HBW : Hid (Below B w ws) := Lib.hid (HBR.out.trans (HBS.out.mono hB0))
        have HV2 := Lib.hid hv2
        clear hvc hbs hpc HCE HSP HMR HBR HBS hp1 hv2
        go_wp2
        go_loopw [12, 73] (fun _ xv wq => ∃ k : Nat, xv = .int .i64 (k : Int) ∧ k ≤ N ∧ Hid (I64At wq (.slice p2 N cap2) l) ∧ Hid (MapS sn b (i + 1) wq) ∧ Hid (Below B w wq)) (fun _ xv _ => N - (intOf xv).toNat)
        case atStart => exact ⟨0, rfl, by omega, HV2, HMS, HBW⟩
        case round =>
          clear HV2 HMS HBW
          obtain ⟨k, rfl, hk, hv, hM, hbl⟩ := hrel
          have hNt := HNT.out
          have hN := HN.out
          by_cases hkn : k < N
          · have d0 : decide ((k : Int) < (N : Int)) = true := decide_eq_true (by omega)
            obtain ⟨q, hq⟩ : ∃ q : Nat, (top : Int) - (k : Int) = (q : Int) := ⟨top - k, by omega⟩
            have hqk : top - k = q := by omega
            obtain ⟨p3, cap3, hpe, _, _, hpc⟩ := hv.out.at_
            injection hpe with e1 _ _
            subst e1
            obtain ⟨bb, oo, rfl, _, hcell⟩ := hpc k (by omega)
            have hgk := HIR.out.get k (by omega)
            rw [hqk] at hgk
            rw [List.getD_eq_getElem?_getD, hgk, Option.getD_some] at hcell
            have hlk : ∀ j, (Instr.lookup 27 (.map (some b)) (.int .i64 q) false).run Tryz.prog (wr.drewN j) = .ok (.bool (sn q)) (wr.drewN j) := fun j => (hM.out.kept ((Kept.refl [] wr).drewN j) (by simp)).look q (by omega)
            clear hpc hgk hqk hNt hN
            cases hs : sn q with
            | true =>
              rw [hs] at hcell hlk
              have hcell' : wr.cell? ⟨bb, oo + k, none⟩ = some (.int .i64 0) := hcell
              clear hcell
              go_wp2
              go_quiet (fail)
              go_wp2
              refine ⟨⟨k + 1, by go_num, by omega, Lib.hid (hv.out.drewN _), Lib.hid (hM.out.kept ((Kept.refl [] wr).drewN _) (by simp)), Lib.hid (hbl.out.trans ((bel_drewN wr _).mono (by have := hbl.out.size; have := HBe.out; omega)))⟩, ?_⟩
              simp [intOf]; omega
            | false =>
              rw [hs] at hcell hlk
              have hcell' : wr.cell? ⟨bb, oo + k, none⟩ = some (.int .i64 3) := hcell
              clear hcell
              go_wp2
              go_quiet (fail)
              go_wp2
              refine ⟨⟨k + 1, by go_num, by omega, Lib.hid (hv.out.drewN _), Lib.hid (hM.out.kept ((Kept.refl [] wr).drewN _) (by simp)), Lib.hid (hbl.out.trans ((bel_drewN wr _).mono (by have := hbl.out.size; have := HBe.out; omega)))⟩, ?_⟩
              simp [intOf]; omega
          · have d0 : decide ((k : Int) < (N : Int)) = false := decide_eq_false (by omega)
            have hbe := HBe.out
            clear hNt hN
            go_wp2
            go_ret
            subst hbe
            exact ⟨rfl, hbl.out⟩
end Go.Proofs.YtkpginmdnlhfbaaGreatDoor
