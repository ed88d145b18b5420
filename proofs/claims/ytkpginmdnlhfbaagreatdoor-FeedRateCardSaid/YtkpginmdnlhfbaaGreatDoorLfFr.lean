/-
  What the laid table of the weights says.
  Rows of numbers, and of pairs of numbers, that came in as arguments, opened.
  The law FeedRate, walked.
-/
import Derived.Test.YtkpginmdnlhfbaaGreatDoorIvalA
import Derived.Test.YtkpginmdnlhfbaaGreatDoorRows
import Derived.Lib.LaidU8
import Derived.Lib.LaidTab
import Derived.MakeChecks
import Derived.OpenShut
import Derived.Test.YtkpginmdnlhfbaaGreatDoorIntR
import Derived.Test.YtkpginmdnlhfbaaGreatDoorVecB
import Derived.ChangeSlices
import Derived.ChangeSame
import Derived.Deep.Slices
import Derived.Deep.SlicePairs
import Derived.Test.YtkpginmdnlhfbaaGreatDoorLfFd
import Derived.Test.YtkpginmdnlhfbaaGreatDoorEqnA
import Derived.Test.YtkpginmdnlhfbaaGreatDoorBegun8
namespace Go.Proofs.YtkpginmdnlhfbaaGreatDoor
open Go.ChangeShapes Go.WideShapes Go.ChangeAt Go.RowKit
set_option linter.unusedVariables false
set_option linter.unusedSimpArgs false

theorem tabW_laid {W : World} {l : List (String × DataW Unit)} (h : laidMet Tryz.prog l W) (hm : ("muleteer/ival.weights", (Rows.laid_muleteer_ival_weights : DataW Unit)) ∈ l) : TabW W := by
  obtain ⟨ps, h, _⟩ := h
  obtain ⟨g, t, cs, fuel, p, hg, ht, hvar, hd⟩ := Lib.LaidVars_reads h _ _ hm
  rw [show (Rows.laid_muleteer_ival_weights : DataW Unit) = Lib.tabData .u64 [5, 5, 5, 5, 4, 3, 2, 1] by kernel_rfl] at hd
  have e : Tryz.prog.globalNamed "muleteer/ival.weights" = some 2 := by kernel_rfl
  obtain rfl := Option.some.inj (e.symm.trans hg)
  obtain rfl : t = 212 := (Option.some.inj ((show (Tryz.prog.globals[2]?).map (·.type) = some 212 by kernel_rfl).symm.trans ht)).symm
  have hc := Lib.cells_of_tab Tryz.underlying212 Tryz.underlying22 (by kernel_rfl) (by kernel_rfl) hd
  obtain ⟨cl⟩ := cs
  simp only at hc
  subst hc
  intro i hi
  have h1 := World.var?_cell e hvar i
  rw [h1]
  obtain rfl | rfl | rfl | rfl | rfl | rfl | rfl | rfl : i = 0 ∨ i = 1 ∨ i = 2 ∨ i = 3 ∨ i = 4 ∨ i = 5 ∨ i = 6 ∨ i = 7 := by omega
  all_goals rfl
end Go.Proofs.YtkpginmdnlhfbaaGreatDoor

namespace Go.Proofs.YtkpginmdnlhfbaaGreatDoor
open Go.ChangeShapes Go.WideShapes Go.Deep Go.RowKit
set_option linter.unusedVariables false

theorem addr_plain {w : World} {a : Addr} {v : Value} (h : w.cell? (a.add 0) = some v) : ∃ b o, a = ⟨b, o, none⟩ ∧ b < w.heap.size := by
  have e : a.add 0 = a := by unfold Addr.add; split <;> simp_all
  rw [e] at h
  have hs : a.spot = none := by
    unfold World.cell? at h
    split at h
    · cases hsp : a.spot with
      | none => rfl
      | some x => rw [hsp] at h; simp at h
    · cases h
  have hb := World.block_lt_of_cell? w a h
  obtain ⟨b, o, sp⟩ := a
  simp only at hs
  subst hs
  exact ⟨b, o, rfl, hb⟩
theorem add_plain (b o k : Nat) : (⟨b, o, none⟩ : Addr).add k = ⟨b, o + k, none⟩ := by unfold Addr.add; split <;> simp_all

theorem open_row {H : Type} {enc : TypeId × Value → H} {W : World} {t e : TypeId} {k : IntKind} {p : Option Addr} {n c : Nat} {d : DataW H} {q : List MemPlace}
    (ht : Tryz.prog.underlying t = some (.slice e)) (he : Tryz.prog.underlying e = some (.int k)) (hc : Tryz.prog.cellsOf e = 1)
    (h : DataW.Trod enc Tryz.prog W 0 (fun _ => true) true t (.slice p n c) d q) :
    n ≤ c ∧ c ≤ 9223372036854775807 ∧ ∃ zs : List Int, n ≤ zs.length ∧ (∀ z ∈ zs, (Lit.int k z).wf = true) ∧ ∀ i, i < n → ∃ b o, p = some ⟨b, o, none⟩ ∧ b < W.heap.size ∧ W.cell? ⟨b, o + i, none⟩ = some (.int k (zs.getD i 0)) := by
  obtain ⟨fuel, hf⟩ := h
  rcases open_ints ht he hc hf with ⟨hcs, hx⟩ | ⟨a, len', cap', zs, hcs, _, hl, hm, hz, hx, hcell, hwz⟩
  · simp [Value.cells] at hcs
    obtain ⟨rfl, rfl, rfl⟩ := hcs
    exact ⟨by omega, by omega, [], by simp, by simp, fun i hi => absurd hi (Nat.not_lt_zero i)⟩
  · simp [Value.cells] at hcs
    obtain ⟨rfl, rfl, rfl⟩ := hcs
    simp only [if_true] at hz
    have hm' : c ≤ 9223372036854775807 := hm
    refine ⟨hl, hm', zs, by omega, hwz, fun i hi => ?_⟩
    obtain ⟨b, o, rfl, hb⟩ := addr_plain (hcell 0 (by omega))
    have h1 := hcell i (by omega)
    rw [add_plain] at h1
    exact ⟨b, o, rfl, hb, h1⟩

theorem getD_take_lt {α : Type} (l : List α) (d : α) (m i : Nat) (h : i < m) : (l.take m).getD i d = l.getD i d := by
  rw [List.getD_eq_getElem?_getD, List.getD_eq_getElem?_getD, List.getElem?_take, if_pos h]
theorem getD_prop {α : Type} {P : α → Prop} {l : List α} {d : α} (h : ∀ z ∈ l, P z) (hd : P d) (i : Nat) : P (l.getD i d) := by
  rw [List.getD_eq_getElem?_getD]
  by_cases hi : i < l.length
  · rw [List.getElem?_eq_getElem hi]; exact h _ (List.getElem_mem _)
  · rw [List.getElem?_eq_none (by omega)]; exact hd

/-- Its first m numbers, signed. -/
theorem open_i64s {H : Type} {enc : TypeId × Value → H} {W : World} {t e : TypeId} {p : Option Addr} {n c : Nat} {d : DataW H} {q : List MemPlace} (m : Nat) (hm : m ≤ 1073741824)
    (ht : Tryz.prog.underlying t = some (.slice e)) (he : Tryz.prog.underlying e = some (.int .i64)) (hc : Tryz.prog.cellsOf e = 1)
    (h : DataW.Trod enc Tryz.prog W 0 (fun _ => true) true t (.slice p n c) d q) :
    n ≤ c ∧ c ≤ 9223372036854775807 ∧ ∃ l : List Int, l.length = min n m ∧ I64At W (.slice p l.length c) l := by
  obtain ⟨h1, h2, zs, h3, h4, h5⟩ := open_row ht he hc h
  have hl : (zs.take (min n m)).length = min n m := by rw [List.length_take]; omega
  refine ⟨h1, h2, zs.take (min n m), hl, ⟨p, c, rfl, by omega, h2, fun i hi => ?_⟩, by omega, fun i => ?_⟩
  · rw [getD_take_lt _ _ _ _ (by omega)]
    exact h5 i (by omega)
  · exact getD_prop (P := fun z => -9223372036854775808 ≤ z ∧ z ≤ 9223372036854775807) (fun z hz => bounds_i64 (h4 z (List.mem_of_mem_take hz))) (by decide) i
/-- All its numbers, signed. -/
theorem open_i64w {H : Type} {enc : TypeId × Value → H} {W : World} {t e : TypeId} {p : Option Addr} {n c : Nat} {d : DataW H} {q : List MemPlace}
    (ht : Tryz.prog.underlying t = some (.slice e)) (he : Tryz.prog.underlying e = some (.int .i64)) (hc : Tryz.prog.cellsOf e = 1)
    (h : DataW.Trod enc Tryz.prog W 0 (fun _ => true) true t (.slice p n c) d q) :
    n ≤ c ∧ c ≤ 9223372036854775807 ∧ ∃ l : List Int, l.length = n ∧ ∀ i, i < l.length → ∃ b o, p = some ⟨b, o, none⟩ ∧ b < W.heap.size ∧ W.cell? ⟨b, o + i, none⟩ = some (.int .i64 (l.getD i 0)) := by
  obtain ⟨h1, h2, zs, h3, h4, h5⟩ := open_row ht he hc h
  have hl : (zs.take n).length = n := by rw [List.length_take]; omega
  refine ⟨h1, h2, zs.take n, hl, fun i hi => ?_⟩
  rw [getD_take_lt _ _ _ _ (by omega)]
  exact h5 i (by omega)
/-- Its first m numbers, without a sign. -/
theorem open_u64s {H : Type} {enc : TypeId × Value → H} {W : World} {t e : TypeId} {p : Option Addr} {n c : Nat} {d : DataW H} {q : List MemPlace} (m : Nat) (hm : m ≤ 1073741824)
    (ht : Tryz.prog.underlying t = some (.slice e)) (he : Tryz.prog.underlying e = some (.int .u64)) (hc : Tryz.prog.cellsOf e = 1)
    (h : DataW.Trod enc Tryz.prog W 0 (fun _ => true) true t (.slice p n c) d q) :
    n ≤ c ∧ c ≤ 9223372036854775807 ∧ ∃ l : List Nat, l.length = min n m ∧ U64At W (.slice p l.length c) l := by
  obtain ⟨h1, h2, zs, h3, h4, h5⟩ := open_row ht he hc h
  have hb : ∀ i, 0 ≤ zs.getD i 0 ∧ zs.getD i 0 ≤ 18446744073709551615 := fun i => getD_prop (P := fun z => 0 ≤ z ∧ z ≤ 18446744073709551615) (fun z hz => bounds_u64 (h4 z hz)) (by decide) i
  have hl : ((zs.take (min n m)).map Int.toNat).length = min n m := by rw [List.length_map, List.length_take]; omega
  have hg : ∀ i, i < min n m → ((((zs.take (min n m)).map Int.toNat).getD i 0 : Nat) : Int) = zs.getD i 0 := fun i hi => by
    have h6 := hb i
    rw [List.getD_eq_getElem?_getD] at h6
    rw [List.getD_eq_getElem?_getD, List.getD_eq_getElem?_getD, List.getElem?_map, List.getElem?_take, if_pos hi]
    have hz : i < zs.length := by omega
    rw [List.getElem?_eq_getElem hz] at h6 ⊢
    simp only [Option.getD_some, Option.map_some] at h6 ⊢
    omega
  refine ⟨h1, h2, (zs.take (min n m)).map Int.toNat, hl, ⟨p, c, rfl, by omega, h2, fun i hi => ?_⟩, by omega, fun i => ?_⟩
  · rw [hg i (by omega)]
    exact h5 i (by omega)
  · by_cases hi : i < min n m
    · have h6 := hb i
      have h7 := hg i hi
      omega
    · rw [List.getD_eq_getElem?_getD, List.getElem?_eq_none (by omega)]
      decide

/-- A row of pairs of numbers, whole. -/
theorem open_pairs {H : Type} {enc : TypeId × Value → H} {W : World} {t e : TypeId} {f0 f1 : Field} {p : Option Addr} {n c : Nat} {d : DataW H} {q : List MemPlace}
    (ht : Tryz.prog.underlying t = some (.slice e)) (he : Tryz.prog.underlying e = some (.struct #[f0, f1])) (ce : Tryz.prog.cellsOf e = 2) (o0 : f0.offset = 0) (o1 : f1.offset = 1) (c0 : Tryz.prog.cellsOf f0.type = 1) (c1 : Tryz.prog.cellsOf f1.type = 1)
    (u0 : Tryz.prog.underlying f0.type = some (.int .i64)) (u1 : Tryz.prog.underlying f1.type = some (.int .i64))
    (h : DataW.Trod enc Tryz.prog W 0 (fun _ => true) true t (.slice p n c) d q) :
    n ≤ c ∧ c ≤ 9223372036854775807 ∧ ∃ l : List Cel, l.length = n ∧ (∀ x ∈ l, -9223372036854775808 ≤ x.2 ∧ x.2 ≤ 9223372036854775807) ∧
      ∀ i, i < l.length → ∃ b o, p = some ⟨b, o, none⟩ ∧ b < W.heap.size ∧ W.cell? ⟨b, o + i * 2, none⟩ = some (.int .i64 (l.getD i (0, 0)).1) ∧ W.cell? ⟨b, o + i * 2 + 1, none⟩ = some (.int .i64 (l.getD i (0, 0)).2) := by
  obtain ⟨fuel, hf⟩ := h
  rcases open_slice_pairs ht he ce o0 o1 c0 c1 hf with ⟨hcs, hx⟩ | ⟨a, len, cap, m, n', V0, V1, D0, D1, P0, P1, hcs, _, hl, hm, hmm, hx, hi⟩
  · simp [Value.cells] at hcs
    obtain ⟨rfl, rfl, rfl⟩ := hcs
    exact ⟨by omega, by omega, [], rfl, by simp, fun i hi => absurd hi (Nat.not_lt_zero i)⟩
  · simp [Value.cells] at hcs
    obtain ⟨rfl, rfl, rfl⟩ := hcs
    have hm' : c ≤ 9223372036854775807 := hm
    simp only [if_true] at hmm
    have key : ∀ i, i < n → ∃ x : Cel, V0 i = .int .i64 x.1 ∧ V1 i = .int .i64 x.2 ∧ (-9223372036854775808 ≤ x.2 ∧ x.2 ≤ 9223372036854775807) := by
      intro i hin
      obtain ⟨_, _, k0, k1⟩ := hi i (by omega)
      obtain ⟨z0, hz0, _, _⟩ := DataW.trod_int u0 k0
      obtain ⟨z1, hz1, _, hw1⟩ := DataW.trod_int u1 k1
      simp at hz0 hz1
      exact ⟨(z0, z1), hz0, hz1, bounds_i64 hw1⟩
    have hlist : ∀ m', m' ≤ n → ∃ l : List Cel, l.length = m' ∧ (∀ x ∈ l, -9223372036854775808 ≤ x.2 ∧ x.2 ≤ 9223372036854775807) ∧ ∀ i, i < m' → V0 i = .int .i64 (l.getD i (0, 0)).1 ∧ V1 i = .int .i64 (l.getD i (0, 0)).2 := by
      intro m'
      induction m' with
      | zero => exact fun _ => ⟨[], rfl, by simp, fun i hi => absurd hi (Nat.not_lt_zero i)⟩
      | succ m' ih =>
        intro hmn
        obtain ⟨l, hl1, hl2, hl3⟩ := ih (by omega)
        obtain ⟨x, hx0, hx1, hx2⟩ := key m' (by omega)
        refine ⟨l ++ [x], by simp [hl1], fun y hy => ?_, fun i hi' => ?_⟩
        · rcases List.mem_append.1 hy with h8 | h8
          · exact hl2 y h8
          · rw [List.mem_singleton.1 h8]; exact hx2
        · by_cases e' : i < m'
          · have h9 := hl3 i e'
            rw [List.getD_eq_getElem?_getD] at h9 ⊢
            rwa [List.getElem?_append_left (by omega)]
          · obtain rfl : i = m' := by omega
            rw [List.getD_eq_getElem?_getD, List.getElem?_append_right (by omega), hl1]
            simpa using ⟨hx0, hx1⟩
    obtain ⟨l, hl1, hl2, hl3⟩ := hlist n (Nat.le_refl _)
    refine ⟨hl, hm', l, hl1, hl2, fun i hi' => ?_⟩
    have h0 := (hi 0 (by omega)).1
    rw [Nat.zero_mul] at h0
    obtain ⟨b, o, rfl, hb⟩ := addr_plain h0
    obtain ⟨h6, h7, _, _⟩ := hi i (by omega)
    obtain ⟨h8, h9⟩ := hl3 i (by omega)
    rw [add_plain] at h6 h7
    rw [h8] at h6
    rw [h9] at h7
    exact ⟨b, o, rfl, hb, h6, h7⟩
end Go.Proofs.YtkpginmdnlhfbaaGreatDoor

namespace Go.Proofs.YtkpginmdnlhfbaaGreatDoor
open Go.ChangeShapes Go.WideShapes Go.ChangeAt Go.RowKit
set_option linter.unusedVariables false
set_option linter.unusedSimpArgs false

/-- All of the first k are got: so many of the first j. -/
theorem gotN_all (l : List (Int × Int)) (k : Nat) (hk : k ≤ l.length) (h : ∀ j, j < k → (l.getD j (0, 0)).1 = 1) : ∀ j, j < k → ¬ (l.getD j (0, 0)).1 = 0 := fun j hj h0 => by rw [h j hj] at h0; cases h0
/-- Behind i numbers that came one behind the other: at T the last one was put or it was told, from F on By bytes. -/
structure FrI (s : FdS) (i : Nat) (T F : Int) (By : Nat) : Prop where
  first : i = 0 → s = FdS.fresh 1000 ∧ By = 0
  span : s.span = (i : Int)
  new : 0 < i → s.newest = i - 1
  now : s.now ≤ T
  since : 0 < i → s.since = F
  bytes : s.bytes = By
  nums : ∀ j, j < i → (s.nums.getD j (0, 0)).1 = 1
  lost : s.lost = 0
theorem FrI.start : FrI (FdS.fresh 1000) 0 0 0 0 := ⟨fun _ => ⟨rfl, rfl⟩, rfl, fun h => by omega, (by decide : (-9223372036854775808 : Int) ≤ 0), fun h => by omega, rfl, fun j h => by omega, rfl⟩
theorem frPutF {s : FdS} {i : Nat} {T F : Int} {By : Nat} (h : FrI s i T F By) (hi : i ≤ 100) (hBy : By ≤ 1000000) (T2 : Int) (hT : T ≤ T2) (h0 : 0 ≤ T2) (h2 : T2 ≤ 4611686018427387904) (sz : Nat) (hsz : sz ≤ 65535) (C : Nat) (w : World) (hf : FdAt s (.slice none 0 0) C w) :
    Calls Tryz.prog 25 #[.pointer (some ⟨C, 0, none⟩), .int .i64 T2, .int .u64 i, .int .i64 sz] w fun e w' => e = .returned (.bool true) ∧ ∃ s', FrI s' (i + 1) T2 (if i = 0 then T2 else F) (By + sz) ∧ FdAt s' (.slice none 0 0) C w' ∧ Kept [C] w w' := by
  have hlen := hf.len
  have hnow := h.now
  rcases Nat.eq_zero_or_pos i with h1 | h1
  · subst h1
    obtain ⟨e, e2⟩ := h.first rfl
    subst e e2
    have hd : ∀ W, Calls Tryz.prog 72 #[.int .u64 ((0 : Nat) : Int), .int .u64 ((0 : Nat) : Int)] W fun e w' => e = .returned (.int .i64 0) ∧ W = w' := fun W => by
      have h9 := seqDiff_any 0 0 (by decide) (by decide) W
      exact h9
    refine (feedPut_first (FdS.fresh 1000) rfl (List.replicate 249 (0, 0)) rfl T2 T2 (by show max (-9223372036854775808 : Int) (min T2 4611686018427387904) = T2; omega) 0 hd sz hsz (by decide) _ C w hf).mono ?_
    rintro e w' ⟨rfl, h3, h4⟩
    refine ⟨rfl, _, ⟨fun h => by omega, rfl, fun _ => rfl, Int.le_refl _, fun _ => by rw [if_pos rfl]; rfl, by show (FdS.fresh 1000).bytes + sz = 0 + sz; rfl, fun j hj => ?_, rfl⟩, h3, h4⟩
    obtain rfl : j = 0 := by omega
    rfl
  · obtain ⟨s1, hs1⟩ : ∃ s1, FdS.leadN { s with now := T2 } i 1 ((i + 1 : Nat) : Int) = s1 := ⟨_, rfl⟩
    have hn1 : s1.nums = (0, 0) :: s.nums.take 249 := by rw [← hs1]; rfl
    have hset : s1.nums.set 0 (1, T2) = (1, T2) :: s.nums.take 249 := by rw [hn1]; rfl
    have hget : ∀ j, j < i + 1 → ((s1.nums.set 0 (1, T2)).getD j (0, 0)).1 = 1 := fun j hj => by
      rw [hset]
      rcases j with _ | j
      · rfl
      · rw [List.getD_cons_succ, List.getD_eq_getElem?_getD, List.getElem?_take, if_pos (by omega), ← List.getD_eq_getElem?_getD]
        exact h.nums j (by omega)
    refine (feedPut_lead s T2 _ T2 (by omega) i (y := i) 1 1 i (i + 1) (Nat.le_refl _) (by decide) rfl h.span h1 (by omega) (by omega) (fun W => ?_) (fun W => ?_) s1 hs1 (fun k hk hz => by rw [hget k hk] at hz; cases hz) sz hsz (by rw [h.bytes]; omega) C w hf).mono ?_
    · have h9 := seqAdd_any s.newest 1 (by rw [h.new h1]; omega) (by decide) (by decide) W
      rw [h.new h1] at h9 ⊢
      rw [show stepI ((i - 1 : Nat) : Int) 1 = (i : Int) by unfold stepI; omega] at h9
      exact h9
    · have h9 := seqDiff_any s.newest i (by rw [h.new h1]; omega) (by omega) W
      rw [h.new h1] at h9 ⊢
      rw [show diffI ((i - 1 : Nat) : Int) (i : Int) = -((1 : Nat) : Int) by unfold diffI; omega] at h9
      exact h9
    · rintro e w' ⟨rfl, h3, h4⟩
      refine ⟨rfl, _, ⟨fun h => by omega, ?_, fun _ => ?_, Int.le_refl _, fun _ => ?_, ?_, hget, ?_⟩, h3, h4⟩
      · show s1.span = _; rw [← hs1]; rfl
      · show s1.newest = _; rw [← hs1]; rfl
      · show s1.since = _; rw [← hs1, if_neg (by omega)]; exact h.since h1
      · show s1.bytes + sz = _; rw [← hs1]; show s.bytes + sz = _; rw [h.bytes]
      · show s1.lost = 0; rw [← hs1]; exact h.lost
theorem feedLost_any (s : FdS) (cl : Value) (C : Nat) (w : World) (h : FdAt s cl C w) :
    Calls Tryz.prog 28 #[.pointer (some ⟨C, 0, none⟩)] w fun e w' => e = .returned (.int .i64 s.lost) ∧ w = w' := by
  have a5 := h.tail.2.1
  clear h
  go_enter Tryz.func28, Tryz.ntmps28
  go_wp2
  go_ret
  exact ⟨rfl, rfl⟩
/-- Told: the rate by its time. -/
theorem frTell {s : FdS} {i : Nat} {T F : Int} {By : Nat} (h : FrI s i T F By) (hi : 0 < i) (hBy : By ≤ 1000000) (a b : Nat) (hF : F = (a : Int)) (hT : T + 7 = (b : Int)) (hab : a + 7 ≤ b) (hb : b ≤ 4611686018427387904) (C : Nat) (w : World) (hTW : TabW w) (hTC : C ≠ 2) (hf : FdAt s (.slice none 0 0) C w) :
    Calls Tryz.prog 27 #[.pointer (some ⟨C, 0, none⟩), .int .i64 (b : Int)] w fun e w' => e = .returned (.tuple #[.int .u64 (64 * By * 1000000 / (b - a) : Nat), .int .u64 0]) ∧ (∃ s', FrI s' i b b 0 ∧ FdAt s' (.slice none 0 0) C w') ∧ Kept [C] w w' := by
  have hnow := h.now
  refine (feedTell_none s b a b (by omega) (by rw [h.since hi, hF]) (by omega) hb (b - a) (by omega) (by rw [h.bytes]; omega) none 0 (by decide) C w hTW hTC hf).mono ?_
  rintro e w' ⟨rfl, h3, h4⟩
  refine ⟨by rw [h.bytes], ⟨s.told b, ⟨fun h => by omega, h.span, h.new, Int.le_refl _, fun _ => rfl, rfl, h.nums, h.lost⟩, h3⟩, h4⟩
set_option maxHeartbeats 8000000 in
set_option maxRecDepth 100000 in
theorem feedRate_walk (p0 p1 : Option Addr) (m0 m1 c0 c1 : Nat) (l0 l1 : List Int) (h0 : m0 ≤ c0) (h0c : c0 ≤ 9223372036854775807) (h1 : m1 ≤ c1) (h1c : c1 ≤ 9223372036854775807) (w : World) (hT : TabW w)
    (hc0 : ∀ i, i < m0 → ∃ b o, p0 = some ⟨b, o, none⟩ ∧ b < w.heap.size ∧ w.cell? ⟨b, o + i, none⟩ = some (.int .i64 (l0.getD i 0)))
    (hc1 : ∀ i, i < m1 → ∃ b o, p1 = some ⟨b, o, none⟩ ∧ b < w.heap.size ∧ w.cell? ⟨b, o + i, none⟩ = some (.int .i64 (l1.getD i 0))) :
    Calls Tryz.prog 11 #[.slice p0 m0 c0, .slice p1 m1 c1] w fun e w' => e = .returned (.bool true) ∧ Below w.heap.size w w' := by
  have HBG : Hid (Calls Tryz.prog 13 #[] w fun e w' => e = .returned (.bool true) ∧ Below w.heap.size w w') := Lib.hid (begun8_any w hT)
  have hgl : 2 < w.heap.size := World.block_lt_of_cell? w ⟨2, 0, none⟩ (hT 0 (by decide))
  have HTW := Lib.hid hT
  have HC0 := Lib.hid hc0
  have HC1 := Lib.hid hc1
  have HGL := Lib.hid hgl
  clear hT hc0 hc1 hgl
  obtain ⟨B, hB⟩ : ∃ B, w.heap.size = B := ⟨_, rfl⟩
  have HBe := Lib.hid hB
  go_enter Tryz.func11, Tryz.ntmps11
  go_upto_region 7 with (first
    | (go_at_call 13; (with_reducible refine HBG.out.mono ?_); rintro e w0 ⟨rfl, hb0⟩)
    | (go_at_call 24; (with_reducible refine (feedNew_any 1000 (by decide) (by decide) _).mono ?_); rintro e w1 ⟨C, rfl, hg1, hc1, hb1⟩))
  have HB1 : Hid (Below B w w1) := Lib.hid (by rw [← hB]; exact bel_trans hb0 hb1)
  have HBC : Hid (B ≤ C) := Lib.hid (by rw [← hB]; exact Nat.le_trans hb0.size hc1)
  have HF1 := Lib.hid hg1
  clear hb0 hg1 hc1 hb1 hB
  go_wp2
  go_loopw [7, 8, 9, 10] (fun nw fr by_ iv wr => ∃ (i T F By : Nat) (s : FdS), iv = .int .i64 (i : Int) ∧ nw = .int .i64 (T : Int) ∧ fr = .int .i64 (F : Int) ∧ by_ = .int .u64 (By : Int) ∧ i ≤ 40 ∧ T ≤ 20000 * i ∧ F ≤ T ∧ By ≤ 1400 * i ∧ Hid (FrI s i T F By) ∧ Hid (FdAt s (.slice none 0 0) C wr) ∧ Hid (Below B w wr)) (fun _ _ _ iv _ => 40 - (intOf iv).toNat)
  case atStart => exact ⟨0, 0, 0, 0, _, rfl, rfl, rfl, rfl, by omega, by omega, by omega, by omega, Lib.hid FrI.start, HF1, HB1⟩
  case round =>
    clear HF1 HB1
    obtain ⟨i, T, F, By, s, rfl, rfl, rfl, rfl, hi, hT, hF, hBy, hI, hf, hbl⟩ := hrel
    by_cases hin : i < m0 ∧ i < m1 ∧ i < 40
    · obtain ⟨j0, j1, j2⟩ := hin
      have d0 : decide ((i : Int) < (m0 : Int)) = true := decide_eq_true (by omega)
      have d1 : decide ((i : Int) < (m1 : Int)) = true := decide_eq_true (by omega)
      have d2 : decide ((i : Int) < 40) = true := decide_eq_true (by omega)
      obtain ⟨b0, o0, rfl, q0, x0⟩ := HC0.out i j0
      obtain ⟨b1, o1, rfl, q1, x1⟩ := HC1.out i j1
      have y0 : wr.cell? ⟨b0, o0 + i, none⟩ = some (.int .i64 (l0.getD i 0)) := (hbl.out.cell (p := ⟨b0, o0 + i, none⟩) (by rw [← HBe.out]; exact q0)).trans x0
      have y1 : wr.cell? ⟨b1, o1 + i, none⟩ = some (.int .i64 (l1.getD i 0)) := (hbl.out.cell (p := ⟨b1, o1 + i, none⟩) (by rw [← HBe.out]; exact q1)).trans x1
      obtain ⟨a0, e0, e01, e02, N0, e03, e04⟩ := mod_at (l0.getD i 0) 1400 (by decide)
      obtain ⟨a1, e1, e11, e12, N1, e13, e14⟩ := mod_at (l1.getD i 0) 10000 (by decide)
      generalize l0.getD i 0 = z0 at *
      generalize l1.getD i 0 = z1 at *
      obtain ⟨K, hK⟩ : ∃ K : Nat, 1 + (N1 : Int) = (K : Int) := ⟨1 + N1, by omega⟩
      obtain ⟨T2, hT2⟩ : ∃ T2 : Nat, (T : Int) + (K : Int) = (T2 : Int) := ⟨T + K, by omega⟩
      obtain ⟨By2, hB2⟩ : ∃ By2 : Nat, (By : Int) + (N0 : Int) = (By2 : Int) := ⟨By + N0, by omega⟩
      have HP : Hid (Calls Tryz.prog 25 #[.pointer (some ⟨C, 0, none⟩), .int .i64 (T2 : Int), .int .u64 i, .int .i64 N0] wr fun e w' => e = .returned (.bool true) ∧ ∃ s', FrI s' (i + 1) T2 (if i = 0 then (T2 : Int) else (F : Int)) By2 ∧ FdAt s' (.slice none 0 0) C w' ∧ Kept [C] wr w') := Lib.hid (by
        have h9 := frPutF hI.out (by omega) (by omega) (T2 : Int) (by omega) (by omega) (by omega) N0 (by omega) C wr hf.out
        rw [show By + N0 = By2 by omega] at h9
        exact h9)
      clear x0 x1 q0 q1
      go_upto_region 13 with (go_at_call 25; (with_reducible refine HP.out.mono ?_); rintro e w3 ⟨rfl, s3, hI3, hf3, hk3⟩)
      have HB3 : Hid (Below B w w3) := Lib.hid (hbl.out.trans (hk3.below (by have := hbl.out.size; have := HBe.out; omega) (by intro x hx; have := HBC.out; simp at hx; omega)))
      have hF3 := Lib.hid hf3
      clear hf3 hk3 HP hI hf hbl y0 y1 e0 e1 e03 e13
      by_cases hz : i = 0
      · subst hz
        rw [if_pos rfl] at hI3
        have HI3 := Lib.hid hI3
        clear hI3
        go_wp2
        refine ⟨⟨1, T2, T2, By2, s3, rfl, rfl, rfl, rfl, by omega, by omega, by omega, by omega, HI3, hF3, HB3⟩, ?_⟩
        simp [intOf]
      · rw [if_neg hz] at hI3
        have HI3 := Lib.hid hI3
        clear hI3
        have z1 : ((i : Int) == 0) = false := by rw [beq_eq_false_iff_ne]; omega
        by_cases h5 : i % 5 = 4
        · have z2 : (i : Int).tmod 5 = 4 := by rw [Int.tmod_eq_emod_of_nonneg (by omega)]; omega
          obtain ⟨T3, hT3⟩ : ∃ T3 : Nat, (T2 : Int) + 7 = (T3 : Int) := ⟨T2 + 7, by omega⟩
          obtain ⟨D, hD⟩ : ∃ D : Nat, (T3 : Int) - (F : Int) = (D : Int) := ⟨T3 - F, by omega⟩
          obtain ⟨Z, hZ⟩ : ∃ Z : Nat, 64 * (By2 : Int) = (Z : Int) := ⟨64 * By2, by omega⟩
          obtain ⟨Q, hQ⟩ : ∃ Q : Nat, Z * 1000000 / D = Q := ⟨_, rfl⟩
          have hQ2 : Q < 18446744073709551616 := by
            rw [← hQ]
            exact Nat.lt_of_le_of_lt (Nat.div_le_self _ _) (by omega)
          have HTE : Hid (Calls Tryz.prog 27 #[.pointer (some ⟨C, 0, none⟩), .int .i64 (T3 : Int)] w3 fun e w' => e = .returned (.tuple #[.int .u64 (Q : Int), .int .u64 0]) ∧ (∃ s', FrI s' (i + 1) T3 T3 0 ∧ FdAt s' (.slice none 0 0) C w') ∧ Kept [C] w3 w') := Lib.hid (by
            have h9 := frTell HI3.out (by omega) (by omega) F T3 rfl (by omega) (by omega) (by omega) C w3 (HTW.out.below (by rw [HBe.out]; exact HB3.out)) (by have := HGL.out; have := HBC.out; have := HBe.out; omega) hF3.out
            rw [show 64 * By2 = Z by omega, show T3 - F = D by omega, hQ] at h9
            exact h9)
          have HMD : Hid (∀ W, Calls Tryz.prog 35 #[.int .u64 Z, .int .u64 1000000, .int .u64 D] W fun e w' => e = .returned (.int .u64 (Q : Int)) ∧ W = w') := Lib.hid (fun W => refMulDiv_at Z 1000000 D Q (by omega) (by decide) (by omega) (by omega) hQ hQ2 W)
          clear hQ hQ2
          go_upto_region 19 with (go_at_call 27; (with_reducible refine HTE.out.mono ?_); rintro e w4 ⟨rfl, ⟨s4, hI4, hf4⟩, hk4⟩)
          have HB4 : Hid (Below B w w4) := Lib.hid (HB3.out.trans (hk4.below (by have := HB3.out.size; have := HBe.out; omega) (by intro x hx; have := HBC.out; simp at hx; omega)))
          have HI4 := Lib.hid hI4
          have HF4 := Lib.hid hf4
          clear hI4 hf4 hk4 HTE HI3 hF3 HB3
          go_wp2_with (go_at_call 35; (with_reducible refine (HMD.out _).mono ?_); rintro e w5 ⟨rfl, rfl⟩)
          refine ⟨⟨i + 1, T3, T3, 0, s4, by go_num, rfl, rfl, rfl, by omega, by omega, by omega, by omega, HI4, HF4, HB4⟩, ?_⟩
          simp [intOf]; omega
        · have z2 : ((i : Int).tmod 5 == 4) = false := by rw [beq_eq_false_iff_ne, Int.tmod_eq_emod_of_nonneg (by omega)]; omega
          go_wp2
          refine ⟨⟨i + 1, T2, F, By2, s3, by go_num, rfl, rfl, rfl, by omega, by omega, by omega, by omega, HI3, hF3, HB3⟩, ?_⟩
          simp [intOf]; omega
    · have HLO : Hid (Calls Tryz.prog 28 #[.pointer (some ⟨C, 0, none⟩)] wr fun e w' => e = .returned (.int .i64 0) ∧ wr = w') := Lib.hid (by
        have h9 := feedLost_any s _ C wr hf.out
        rw [hI.out.lost] at h9
        exact h9)
      have hbe := HBe.out
      clear hI hf
      rcases (show ¬ i < m0 ∨ (i < m0 ∧ ¬ i < m1) ∨ (i < m0 ∧ i < m1 ∧ ¬ i < 40) by omega) with g0 | ⟨g0, g1⟩ | ⟨g0, g1, g2⟩
      · have d0 : decide ((i : Int) < (m0 : Int)) = false := decide_eq_false (by omega)
        clear hin
        go_wp2_with (go_at_call 28; (with_reducible refine HLO.out.mono ?_); rintro e w5 ⟨rfl, rfl⟩)
        go_ret
        subst hbe
        exact ⟨rfl, hbl.out⟩
      · have d0 : decide ((i : Int) < (m0 : Int)) = true := decide_eq_true (by omega)
        have d1 : decide ((i : Int) < (m1 : Int)) = false := decide_eq_false (by omega)
        clear hin
        go_wp2_with (go_at_call 28; (with_reducible refine HLO.out.mono ?_); rintro e w5 ⟨rfl, rfl⟩)
        go_ret
        subst hbe
        exact ⟨rfl, hbl.out⟩
      · have d0 : decide ((i : Int) < (m0 : Int)) = true := decide_eq_true (by omega)
        have d1 : decide ((i : Int) < (m1 : Int)) = true := decide_eq_true (by omega)
        have d2 : decide ((i : Int) < 40) = false := decide_eq_false (by omega)
        clear hin
        go_wp2_with (go_at_call 28; (with_reducible refine HLO.out.mono ?_); rintro e w5 ⟨rfl, rfl⟩)
        go_ret
        subst hbe
        exact ⟨rfl, hbl.out⟩
end Go.Proofs.YtkpginmdnlhfbaaGreatDoor
