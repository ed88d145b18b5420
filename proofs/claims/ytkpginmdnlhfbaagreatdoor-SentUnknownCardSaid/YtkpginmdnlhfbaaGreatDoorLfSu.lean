/-
  What the laid table of the weights says.
  Rows of numbers, and of pairs of numbers, that came in as arguments, opened.
  The law SentUnknown, walked.
-/
import Derived.Test.YtkpginmdnlhfbaaGreatDoorIvalA
import Derived.Test.YtkpginmdnlhfbaaGreatDoorRows
import Derived.Lib.LaidU8
import Derived.Lib.LaidTab
import Derived.MakeChecks
import Derived.OpenShut
import Derived.Test.YtkpginmdnlhfbaaGreatDoorIntR
import Derived.Test.YtkpginmdnlhfbaaGreatDoorVecB
import Derived.ChangeSlices
import Derived.ChangeSame
import Derived.Deep.Slices
import Derived.Deep.SlicePairs
import Derived.Test.YtkpginmdnlhfbaaGreatDoorLfSn
import Derived.Test.YtkpginmdnlhfbaaGreatDoorBegun8
namespace Go.Proofs.YtkpginmdnlhfbaaGreatDoor
open Go.ChangeShapes Go.WideShapes Go.ChangeAt Go.RowKit
set_option linter.unusedVariables false
set_option linter.unusedSimpArgs false

theorem tabW_laid {W : World} {l : List (String × DataW Unit)} (h : laidMet Tryz.prog l W) (hm : ("muleteer/ival.weights", (Rows.laid_muleteer_ival_weights : DataW Unit)) ∈ l) : TabW W := by
  obtain ⟨ps, h, _⟩ := h
  obtain ⟨g, t, cs, fuel, p, hg, ht, hvar, hd⟩ := Lib.LaidVars_reads h _ _ hm
  rw [show (Rows.laid_muleteer_ival_weights : DataW Unit) = Lib.tabData .u64 [5, 5, 5, 5, 4, 3, 2, 1] by kernel_rfl] at hd
  have e : Tryz.prog.globalNamed "muleteer/ival.weights" = some 2 := by kernel_rfl
  obtain rfl := Option.some.inj (e.symm.trans hg)
  obtain rfl : t = 212 := (Option.some.inj ((show (Tryz.prog.globals[2]?).map (·.type) = some 212 by kernel_rfl).symm.trans ht)).symm
  have hc := Lib.cells_of_tab Tryz.underlying212 Tryz.underlying22 (by kernel_rfl) (by kernel_rfl) hd
  obtain ⟨cl⟩ := cs
  simp only at hc
  subst hc
  intro i hi
  have h1 := World.var?_cell e hvar i
  rw [h1]
  obtain rfl | rfl | rfl | rfl | rfl | rfl | rfl | rfl : i = 0 ∨ i = 1 ∨ i = 2 ∨ i = 3 ∨ i = 4 ∨ i = 5 ∨ i = 6 ∨ i = 7 := by omega
  all_goals rfl
end Go.Proofs.YtkpginmdnlhfbaaGreatDoor

namespace Go.Proofs.YtkpginmdnlhfbaaGreatDoor
open Go.ChangeShapes Go.WideShapes Go.Deep Go.RowKit
set_option linter.unusedVariables false

theorem addr_plain {w : World} {a : Addr} {v : Value} (h : w.cell? (a.add 0) = some v) : ∃ b o, a = ⟨b, o, none⟩ ∧ b < w.heap.size := by
  have e : a.add 0 = a := by unfold Addr.add; split <;> simp_all
  rw [e] at h
  have hs : a.spot = none := by
    unfold World.cell? at h
    split at h
    · cases hsp : a.spot with
      | none => rfl
      | some x => rw [hsp] at h; simp at h
    · cases h
  have hb := World.block_lt_of_cell? w a h
  obtain ⟨b, o, sp⟩ := a
  simp only at hs
  subst hs
  exact ⟨b, o, rfl, hb⟩
theorem add_plain (b o k : Nat) : (⟨b, o, none⟩ : Addr).add k = ⟨b, o + k, none⟩ := by unfold Addr.add; split <;> simp_all

theorem open_row {H : Type} {enc : TypeId × Value → H} {W : World} {t e : TypeId} {k : IntKind} {p : Option Addr} {n c : Nat} {d : DataW H} {q : List MemPlace}
    (ht : Tryz.prog.underlying t = some (.slice e)) (he : Tryz.prog.underlying e = some (.int k)) (hc : Tryz.prog.cellsOf e = 1)
    (h : DataW.Trod enc Tryz.prog W 0 (fun _ => true) true t (.slice p n c) d q) :
    n ≤ c ∧ c ≤ 9223372036854775807 ∧ ∃ zs : List Int, n ≤ zs.length ∧ (∀ z ∈ zs, (Lit.int k z).wf = true) ∧ ∀ i, i < n → ∃ b o, p = some ⟨b, o, none⟩ ∧ b < W.heap.size ∧ W.cell? ⟨b, o + i, none⟩ = some (.int k (zs.getD i 0)) := by
  obtain ⟨fuel, hf⟩ := h
  rcases open_ints ht he hc hf with ⟨hcs, hx⟩ | ⟨a, len', cap', zs, hcs, _, hl, hm, hz, hx, hcell, hwz⟩
  · simp [Value.cells] at hcs
    obtain ⟨rfl, rfl, rfl⟩ := hcs
    exact ⟨by omega, by omega, [], by simp, by simp, fun i hi => absurd hi (Nat.not_lt_zero i)⟩
  · simp [Value.cells] at hcs
    obtain ⟨rfl, rfl, rfl⟩ := hcs
    simp only [if_true] at hz
    have hm' : c ≤ 9223372036854775807 := hm
    refine ⟨hl, hm', zs, by omega, hwz, fun i hi => ?_⟩
    obtain ⟨b, o, rfl, hb⟩ := addr_plain (hcell 0 (by omega))
    have h1 := hcell i (by omega)
    rw [add_plain] at h1
    exact ⟨b, o, rfl, hb, h1⟩

theorem getD_take_lt {α : Type} (l : List α) (d : α) (m i : Nat) (h : i < m) : (l.take m).getD i d = l.getD i d := by
  rw [List.getD_eq_getElem?_getD, List.getD_eq_getElem?_getD, List.getElem?_take, if_pos h]
theorem getD_prop {α : Type} {P : α → Prop} {l : List α} {d : α} (h : ∀ z ∈ l, P z) (hd : P d) (i : Nat) : P (l.getD i d) := by
  rw [List.getD_eq_getElem?_getD]
  by_cases hi : i < l.length
  · rw [List.getElem?_eq_getElem hi]; exact h _ (List.getElem_mem _)
  · rw [List.getElem?_eq_none (by omega)]; exact hd

/-- Its first m numbers, signed. -/
theorem open_i64s {H : Type} {enc : TypeId × Value → H} {W : World} {t e : TypeId} {p : Option Addr} {n c : Nat} {d : DataW H} {q : List MemPlace} (m : Nat) (hm : m ≤ 1073741824)
    (ht : Tryz.prog.underlying t = some (.slice e)) (he : Tryz.prog.underlying e = some (.int .i64)) (hc : Tryz.prog.cellsOf e = 1)
    (h : DataW.Trod enc Tryz.prog W 0 (fun _ => true) true t (.slice p n c) d q) :
    n ≤ c ∧ c ≤ 9223372036854775807 ∧ ∃ l : List Int, l.length = min n m ∧ I64At W (.slice p l.length c) l := by
  obtain ⟨h1, h2, zs, h3, h4, h5⟩ := open_row ht he hc h
  have hl : (zs.take (min n m)).length = min n m := by rw [List.length_take]; omega
  refine ⟨h1, h2, zs.take (min n m), hl, ⟨p, c, rfl, by omega, h2, fun i hi => ?_⟩, by omega, fun i => ?_⟩
  · rw [getD_take_lt _ _ _ _ (by omega)]
    exact h5 i (by omega)
  · exact getD_prop (P := fun z => -9223372036854775808 ≤ z ∧ z ≤ 9223372036854775807) (fun z hz => bounds_i64 (h4 z (List.mem_of_mem_take hz))) (by decide) i
/-- All its numbers, signed. -/
theorem open_i64w {H : Type} {enc : TypeId × Value → H} {W : World} {t e : TypeId} {p : Option Addr} {n c : Nat} {d : DataW H} {q : List MemPlace}
    (ht : Tryz.prog.underlying t = some (.slice e)) (he : Tryz.prog.underlying e = some (.int .i64)) (hc : Tryz.prog.cellsOf e = 1)
    (h : DataW.Trod enc Tryz.prog W 0 (fun _ => true) true t (.slice p n c) d q) :
    n ≤ c ∧ c ≤ 9223372036854775807 ∧ ∃ l : List Int, l.length = n ∧ ∀ i, i < l.length → ∃ b o, p = some ⟨b, o, none⟩ ∧ b < W.heap.size ∧ W.cell? ⟨b, o + i, none⟩ = some (.int .i64 (l.getD i 0)) := by
  obtain ⟨h1, h2, zs, h3, h4, h5⟩ := open_row ht he hc h
  have hl : (zs.take n).length = n := by rw [List.length_take]; omega
  refine ⟨h1, h2, zs.take n, hl, fun i hi => ?_⟩
  rw [getD_take_lt _ _ _ _ (by omega)]
  exact h5 i (by omega)
/-- Its first m numbers, without a sign. -/
theorem open_u64s {H : Type} {enc : TypeId × Value → H} {W : World} {t e : TypeId} {p : Option Addr} {n c : Nat} {d : DataW H} {q : List MemPlace} (m : Nat) (hm : m ≤ 1073741824)
    (ht : Tryz.prog.underlying t = some (.slice e)) (he : Tryz.prog.underlying e = some (.int .u64)) (hc : Tryz.prog.cellsOf e = 1)
    (h : DataW.Trod enc Tryz.prog W 0 (fun _ => true) true t (.slice p n c) d q) :
    n ≤ c ∧ c ≤ 9223372036854775807 ∧ ∃ l : List Nat, l.length = min n m ∧ U64At W (.slice p l.length c) l := by
  obtain ⟨h1, h2, zs, h3, h4, h5⟩ := open_row ht he hc h
  have hb : ∀ i, 0 ≤ zs.getD i 0 ∧ zs.getD i 0 ≤ 18446744073709551615 := fun i => getD_prop (P := fun z => 0 ≤ z ∧ z ≤ 18446744073709551615) (fun z hz => bounds_u64 (h4 z hz)) (by decide) i
  have hl : ((zs.take (min n m)).map Int.toNat).length = min n m := by rw [List.length_map, List.length_take]; omega
  have hg : ∀ i, i < min n m → ((((zs.take (min n m)).map Int.toNat).getD i 0 : Nat) : Int) = zs.getD i 0 := fun i hi => by
    have h6 := hb i
    rw [List.getD_eq_getElem?_getD] at h6
    rw [List.getD_eq_getElem?_getD, List.getD_eq_getElem?_getD, List.getElem?_map, List.getElem?_take, if_pos hi]
    have hz : i < zs.length := by omega
    rw [List.getElem?_eq_getElem hz] at h6 ⊢
    simp only [Option.getD_some, Option.map_some] at h6 ⊢
    omega
  refine ⟨h1, h2, (zs.take (min n m)).map Int.toNat, hl, ⟨p, c, rfl, by omega, h2, fun i hi => ?_⟩, by omega, fun i => ?_⟩
  · rw [hg i (by omega)]
    exact h5 i (by omega)
  · by_cases hi : i < min n m
    · have h6 := hb i
      have h7 := hg i hi
      omega
    · rw [List.getD_eq_getElem?_getD, List.getElem?_eq_none (by omega)]
      decide

/-- A row of pairs of numbers, whole. -/
theorem open_pairs {H : Type} {enc : TypeId × Value → H} {W : World} {t e : TypeId} {f0 f1 : Field} {p : Option Addr} {n c : Nat} {d : DataW H} {q : List MemPlace}
    (ht : Tryz.prog.underlying t = some (.slice e)) (he : Tryz.prog.underlying e = some (.struct #[f0, f1])) (ce : Tryz.prog.cellsOf e = 2) (o0 : f0.offset = 0) (o1 : f1.offset = 1) (c0 : Tryz.prog.cellsOf f0.type = 1) (c1 : Tryz.prog.cellsOf f1.type = 1)
    (u0 : Tryz.prog.underlying f0.type = some (.int .i64)) (u1 : Tryz.prog.underlying f1.type = some (.int .i64))
    (h : DataW.Trod enc Tryz.prog W 0 (fun _ => true) true t (.slice p n c) d q) :
    n ≤ c ∧ c ≤ 9223372036854775807 ∧ ∃ l : List Cel, l.length = n ∧ (∀ x ∈ l, -9223372036854775808 ≤ x.2 ∧ x.2 ≤ 9223372036854775807) ∧
      ∀ i, i < l.length → ∃ b o, p = some ⟨b, o, none⟩ ∧ b < W.heap.size ∧ W.cell? ⟨b, o + i * 2, none⟩ = some (.int .i64 (l.getD i (0, 0)).1) ∧ W.cell? ⟨b, o + i * 2 + 1, none⟩ = some (.int .i64 (l.getD i (0, 0)).2) := by
  obtain ⟨fuel, hf⟩ := h
  rcases open_slice_pairs ht he ce o0 o1 c0 c1 hf with ⟨hcs, hx⟩ | ⟨a, len, cap, m, n', V0, V1, D0, D1, P0, P1, hcs, _, hl, hm, hmm, hx, hi⟩
  · simp [Value.cells] at hcs
    obtain ⟨rfl, rfl, rfl⟩ := hcs
    exact ⟨by omega, by omega, [], rfl, by simp, fun i hi => absurd hi (Nat.not_lt_zero i)⟩
  · simp [Value.cells] at hcs
    obtain ⟨rfl, rfl, rfl⟩ := hcs
    have hm' : c ≤ 9223372036854775807 := hm
    simp only [if_true] at hmm
    have key : ∀ i, i < n → ∃ x : Cel, V0 i = .int .i64 x.1 ∧ V1 i = .int .i64 x.2 ∧ (-9223372036854775808 ≤ x.2 ∧ x.2 ≤ 9223372036854775807) := by
      intro i hin
      obtain ⟨_, _, k0, k1⟩ := hi i (by omega)
      obtain ⟨z0, hz0, _, _⟩ := DataW.trod_int u0 k0
      obtain ⟨z1, hz1, _, hw1⟩ := DataW.trod_int u1 k1
      simp at hz0 hz1
      exact ⟨(z0, z1), hz0, hz1, bounds_i64 hw1⟩
    have hlist : ∀ m', m' ≤ n → ∃ l : List Cel, l.length = m' ∧ (∀ x ∈ l, -9223372036854775808 ≤ x.2 ∧ x.2 ≤ 9223372036854775807) ∧ ∀ i, i < m' → V0 i = .int .i64 (l.getD i (0, 0)).1 ∧ V1 i = .int .i64 (l.getD i (0, 0)).2 := by
      intro m'
      induction m' with
      | zero => exact fun _ => ⟨[], rfl, by simp, fun i hi => absurd hi (Nat.not_lt_zero i)⟩
      | succ m' ih =>
        intro hmn
        obtain ⟨l, hl1, hl2, hl3⟩ := ih (by omega)
        obtain ⟨x, hx0, hx1, hx2⟩ := key m' (by omega)
        refine ⟨l ++ [x], by simp [hl1], fun y hy => ?_, fun i hi' => ?_⟩
        · rcases List.mem_append.1 hy with h8 | h8
          · exact hl2 y h8
          · rw [List.mem_singleton.1 h8]; exact hx2
        · by_cases e' : i < m'
          · have h9 := hl3 i e'
            rw [List.getD_eq_getElem?_getD] at h9 ⊢
            rwa [List.getElem?_append_left (by omega)]
          · obtain rfl : i = m' := by omega
            rw [List.getD_eq_getElem?_getD, List.getElem?_append_right (by omega), hl1]
            simpa using ⟨hx0, hx1⟩
    obtain ⟨l, hl1, hl2, hl3⟩ := hlist n (Nat.le_refl _)
    refine ⟨hl, hm', l, hl1, hl2, fun i hi' => ?_⟩
    have h0 := (hi 0 (by omega)).1
    rw [Nat.zero_mul] at h0
    obtain ⟨b, o, rfl, hb⟩ := addr_plain h0
    obtain ⟨h6, h7, _, _⟩ := hi i (by omega)
    obtain ⟨h8, h9⟩ := hl3 i (by omega)
    rw [add_plain] at h6 h7
    rw [h8] at h6
    rw [h9] at h7
    exact ⟨b, o, rfl, hb, h6, h7⟩
end Go.Proofs.YtkpginmdnlhfbaaGreatDoor

namespace Go.Proofs.YtkpginmdnlhfbaaGreatDoor
open Go.ChangeShapes Go.WideShapes Go.ChangeAt Go.RowKit
set_option linter.unusedVariables false
set_option linter.unusedSimpArgs false

/-- The number i steps on. -/
def nS (first i : Nat) : Nat := (first + i) % 281474976710656
theorem nS_step (first i : Nat) : stepI first (i : Int) = (nS first i : Int) := by unfold stepI nS; omega
theorem nS_lt (first i : Nat) : nS first i < 281474976710656 := Nat.mod_lt _ (by decide)
theorem nS_next (first j : Nat) (hj : j < 200) : diffI (nS first j) (nS first (j + 1)) < 0 := by unfold diffI nS; omega
theorem own_shape {w : World} {B T sz n : Nat} {v : Value} {xs : List Value} (h : w.ownsRow B T sz v n xs) : ∃ p c, v = .slice p n c := by
  rcases h.2 with ⟨rfl, h0⟩ | ⟨g, cap, cur, rfl, _⟩
  · exact ⟨none, 0, by rw [h0]⟩
  · exact ⟨_, _, rfl⟩
theorem told_far (T : List Int) (hT : T.length ≤ 1000) (d : Int) (hd : d < 0 ∨ 1000 ≤ d) : M.told T d = 3 := by
  unfold M.told
  by_cases h : d < 0
  · rw [if_pos h]
  · rw [if_neg h, List.getD_eq_getElem?_getD, List.getElem?_eq_none (by omega)]
    rfl
theorem lose_out {s : Nat → Nat} {T : Int} {L : List Rec} (h : SntI s T L) : (LsS.upto L L.length).ns = [] ∧ (LsS.upto L L.length).recs = L :=
  lose_no L fun k hk h0 => by
    have : (LsS.upto L k).b = 0 := lose_b0 L k (by omega) (fun i h2 h3 => by rw [h.out i h3]; decide)
    omega
theorem unkHear {s : Nat → Nat} {L : List Rec} (hI : SntI s 0 L) (hs : ∀ j, s j < 281474976710656) (hL0 : 0 < L.length) (hL : L.length ≤ 200) (ack : Nat) (hack : ack < 18446744073709551616) (hfar : ∀ i, i < L.length → diffI ack (s i) < 0 ∨ 1000 ≤ diffI ack (s i)) (l : List Cel) (C g c : Nat) (v : Value) (w : World) (h : RecsAt L C g c w) (hv : C2Wd w v l) :
    Calls Tryz.prog 21 #[.pointer (some ⟨C, 0, none⟩), .int .u64 ack, v, .int .i64 5] w fun e w' => ∃ pG nG pL nL pX nX, e = .returned (.agg #[.slice pG 0 nG, .slice pL 0 nL, .slice pX 0 nX, .int .i64 0, .int .i64 (-1)]) ∧ RecsAt L C g c w' ∧ Kept [g] w w' := by
  cases hm : mayF 0 l with
  | false =>
    refine (sentHear_bad C ack 5 l hm v w hv).mono ?_
    rintro e w' ⟨rfl, hb⟩
    exact ⟨none, 0, none, 0, none, 0, rfl, h.below hb, Kept.of_below _ hb⟩
  | true =>
    have hl := spread_len l 0 (by decide) (by decide) hm
    exact hearNone hL0 hL (fun i hi => by rw [hI.num i hi]; have := hs i; omega) ack hack 5 (by decide) (fun i hi => by
      have h1 := hI.time i hi
      exact ⟨h1.1, by omega, .inl (hI.out i hi)⟩) l hm (fun i hi => by
      left
      rw [hI.num i hi]
      exact told_far _ (by omega) _ (hfar i hi)) (lose_out hI) C g c v w h (hv.at hm)
theorem sntRecs {s : Nat → Nat} {T : Int} {L : List Rec} {C B : Nat} {v : Value} {w0 W : World} (h : SntW s T L C B v w0 W) (hL : 0 < L.length) : ∃ g c, RecsAt L C g c W ∧ B ≤ g := by
  obtain ⟨g, c, e, _⟩ := h.at_.row.shape hL
  have h1 := h.at_
  rw [e] at h1
  exact ⟨g, c, h1.recs hL, h.blk g (by rw [e]; rfl)⟩
set_option maxHeartbeats 8000000 in
set_option maxRecDepth 100000 in
theorem sentUnknown_walk (first : Nat) (hfi : first < 18446744073709551616) (nn oo : Int) (n1 : -9223372036854775808 ≤ nn) (n2 : nn ≤ 9223372036854775807) (m1 : -9223372036854775808 ≤ oo) (m2 : oo ≤ 9223372036854775807) (p : Option Addr) (cn cap : Nat) (hcc : cn ≤ cap) (hcm : cap ≤ 9223372036854775807) (l l20 : List Cel) (hl : l.length = cn) (w : World) (hT : TabW w) (hv : C2Wd w (.slice p cn cap) l) (hl20 : l20.length = min cn 20) (hv20 : C2At w (.slice p l20.length cap) l20) :
    Calls Tryz.prog 5 #[.int .u64 first, .int .i64 nn, .int .i64 oo, .slice p cn cap] w fun e w' => e = .returned (.bool true) ∧ Below w.heap.size w w' := by
  have HBG : Hid (Calls Tryz.prog 13 #[] w fun e w' => e = .returned (.bool true) ∧ Below w.heap.size w w') := Lib.hid (begun8_any w hT)
  clear hT
  obtain ⟨a, ha, a1, a2, J, hJ, hJ3⟩ := mod_at nn 20 (by decide)
  obtain ⟨N, hN⟩ : ∃ N : Nat, 1 + (J : Int) = (N : Int) := ⟨1 + J, by omega⟩
  have hN1 : 1 ≤ N := by omega
  have hN2 : N < 21 := by omega
  obtain ⟨O, hO, o1, o2, _⟩ := mod_at oo 1099511627776 (by decide)
  obtain ⟨B, hB⟩ : ∃ B, w.heap.size = B := ⟨_, rfl⟩
  have HBe := Lib.hid hB
  have HST : Hid (∀ i : Nat, i ≤ 100 → ∀ W, Calls Tryz.prog 16 #[.int .u64 first, .int .i64 i] W fun e w' => e = .returned (.int .u64 (nS first i : Int)) ∧ W = w') := Lib.hid (fun i hi W => by rw [← nS_step]; exact refStep_any first i hfi (by omega) (by omega) W)
  have HSX : Hid (∀ x : Int, -9223372036854775808 ≤ x → x ≤ 9223372036854775807 → ∃ y : Nat, stepI first x = (y : Int) ∧ ∀ W, Calls Tryz.prog 16 #[.int .u64 first, .int .i64 x] W fun e w' => e = .returned (.int .u64 (y : Int)) ∧ W = w') := Lib.hid (fun x h1 h2 => ⟨(stepI first x).toNat, by unfold stepI; omega, fun W => by
    have h3 := refStep_any first x hfi h1 h2 W
    rw [show stepI first x = (((stepI first x).toNat : Nat) : Int) by unfold stepI; omega] at h3
    exact h3⟩)
  have HV := Lib.hid hv
  have HV20 := Lib.hid hv20
  have HL := Lib.hid hl
  have HL20 := Lib.hid hl20
  clear hv hv20 hl hl20
  go_enter Tryz.func5, Tryz.ntmps5
  go_upto_region 6 with (first
    | (go_at_call 13; (with_reducible refine HBG.out.mono ?_); rintro e w0 ⟨rfl, hb0⟩)
    | (go_at_call 19; (with_reducible refine (sentNew_any _).mono ?_); rintro e w1 ⟨C, rfl, hg1, hc1, hb1⟩))
  have HI0 : Hid (SntW (nS first) 0 [] C B (.slice none 0 0) w w1) := Lib.hid (SntW.start _ C B w w1 hg1 (by rw [← hB]; exact bel_trans hb0 hb1) ⟨by rw [← hB]; exact Nat.le_trans hb0.size hc1, hB⟩)
  clear hb0 hg1 hc1 hb1 ha hJ hN hB
  go_wp2
  go_loopw [11] (fun iv wr => ∃ (i : Nat) (L : List Rec) (v : Value), iv = .int .i64 (i : Int) ∧ i ≤ N ∧ Hid (L.length = i) ∧ Hid (SntW (nS first) 0 L C B v w wr)) (fun iv _ => N - (intOf iv).toNat)
  case atStart => exact ⟨0, [], _, rfl, Nat.zero_le _, Lib.hid rfl, HI0⟩
  case round =>
    clear HI0
    obtain ⟨i, L, v, rfl, hi, hL, hI⟩ := hrel
    by_cases hlt : i < N
    · have d1 : decide ((i : Int) < (N : Int)) = true := decide_eq_true (by omega)
      have HSI := Lib.hid (HST.out i (by omega))
      have HP : Hid (Calls Tryz.prog 20 #[.pointer (some ⟨C, 0, none⟩), .int .u64 (nS first i), .int .i64 0] wr fun e w' => e = .returned (.bool true) ∧ ∃ v', SntW (nS first) 0 (L ++ [(nS first L.length, 0, 0)]) C B v' w w' ∧ (∃ g c, v' = .slice (some ⟨g, 0, none⟩) (L.length + 1) c) ∧ Kept (C :: own v) wr w') := Lib.hid (by
        have h1 := hI.out.put (T2 := 0) (nS_lt first) (nS_next first) (by rw [hL.out]; omega) (Int.le_refl _) (Int.le_refl _) (by decide)
        rw [hL.out] at h1 ⊢
        exact h1)
      go_wp2_with (first
        | (go_at_call 16; (with_reducible refine (HSI.out _).mono ?_); rintro e w2 ⟨rfl, rfl⟩)
        | (go_at_call 20; (with_reducible refine HP.out.mono ?_); rintro e w3 ⟨rfl, v3, hI3, _, _⟩))
      refine ⟨⟨i + 1, _, v3, by go_num, by omega, Lib.hid (by rw [List.length_append, hL.out]; rfl), Lib.hid hI3⟩, ?_⟩
      simp [intOf]; omega
    · have d1 : decide ((i : Int) < (N : Int)) = false := decide_eq_false (by omega)
      obtain rfl : i = N := by omega
      obtain ⟨g, c, hr, hgB⟩ := sntRecs hI.out (by rw [hL.out]; omega)
      have HR := Lib.hid hr
      have HIN := Lib.hid hI.out.inv
      have HBW := Lib.hid hI.out.below
      have HCB := Lib.hid (show B ≤ C ∧ B ≤ g from ⟨hI.out.size.1, hgB⟩)
      have HOU : Hid (∀ W, RecsAt L C g c W → Calls Tryz.prog 22 #[.pointer (some ⟨C, 0, none⟩)] W fun e w' => e = .returned (.int .i64 (i : Int)) ∧ Below W.heap.size W w') := Lib.hid (fun W hW => by
        have h1 := sentOut_any L (by rw [hL.out]; omega) C g c W hW
        rw [HIN.out.outs, hL.out] at h1
        exact h1)
      have HVW := Lib.hid (HV.out.below (by rw [HBe.out]; exact HBW.out))
      have HV20W := Lib.hid (HV20.out.below (by rw [HBe.out]; exact HBW.out))
      clear hr hgB hI HST HV
      by_cases hO0 : 0 ≤ O
      · have e1 : decide ((0 : Int) ≤ O) = true := decide_eq_true hO0
        obtain ⟨M20, hM20⟩ : ∃ M20, min cn 20 = M20 := ⟨_, rfl⟩
        obtain ⟨q1, q2, q3, q4, q5, q6⟩ := mns cn 20 M20 hM20
        have q1' : (if (20 : Int) < (cn : Int) then (20 : Int) else (cn : Int)) = (M20 : Int) := q1
        have q2' : (if 20 < cn then (20 : Int) else (cn : Int)) = (M20 : Int) := q2
        have q3' : min (cn : Int) 20 = (M20 : Int) := q3
        have hMc : M20 ≤ cap := by omega
        have hL20 := HL20.out
        rw [hM20] at hL20
        rw [hL20] at HV20W
        obtain ⟨y, hy, hSX⟩ := HSX.out (2000 + O) (by omega) (by omega)
        have HSX2 := Lib.hid hSX
        have HH : Hid (Calls Tryz.prog 21 #[.pointer (some ⟨C, 0, none⟩), .int .u64 y, .slice p M20 cap, .int .i64 5] wr fun e w' => ∃ pG nG pL nL pX nX, e = .returned (.agg #[.slice pG 0 nG, .slice pL 0 nL, .slice pX 0 nX, .int .i64 0, .int .i64 (-1)]) ∧ RecsAt L C g c w' ∧ Kept [g] wr w') := Lib.hid (unkHear HIN.out (nS_lt first) (by rw [hL.out]; omega) (by rw [hL.out]; omega) y (by unfold stepI at hy; omega) (fun j hj => by
          right
          rw [hL.out] at hj
          unfold stepI at hy
          unfold diffI nS
          omega) l20 C g c _ wr HR.out ⟨by have := HV20W.out.at_; rw [hL20]; rw [hL20] at this; exact this, HV20W.out.small⟩)
        have HRS : Hid (∀ W, C2At W (.slice p M20 cap) l20 → Calls Tryz.prog 23 #[.slice p M20 cap] W fun e w' => ∃ p n c, e = .returned (.slice p n c) ∧ n ≤ 1000 ∧ Below W.heap.size W w') := Lib.hid (fun W hW => (refSpread_any _ l20 W hW).mono (by
          rintro e w' ⟨v', rfl, h1⟩
          obtain ⟨p', c', rfl⟩ := own_shape h1.1
          refine ⟨p', _, c', rfl, ?_, h1.2.1⟩
          unfold spreadR
          split
          · rename_i hmf
            have := spread_len l20 0 (by decide) (by decide) hmf
            omega
          · simp))
        have e3 : decide ((2000 : Int) ≤ 2000 + O) = true := decide_eq_true (by omega)
        have HM20 := Lib.hid hM20
        clear hy hSX hL20 hM20 q1 q2 q3
        go_upto_region 16 with (first
          | (go_at_call 16; (with_reducible refine (HSX2.out _).mono ?_); rintro e w2 ⟨rfl, rfl⟩)
          | (go_at_call 21; (with_reducible refine HH.out.mono ?_); rintro e w3 ⟨pG, nG, pL, nL, pX, nX, rfl, hr3, hk3⟩))
        have hb3 : Below B w w3 := HBW.out.trans (hk3.below (by have := HBe.out; have := HBW.out.size; omega) (by intro x hx; have := HCB.out.2; simp at hx; omega))
        have kb := BlkIs.new #[.slice pG 0 nG, .slice pL 0 nL, .slice pX 0 nX, .int .i64 0, .int .i64 (-1)] 41 w3
        have HR4 : Hid (RecsAt L C g c (w3.alloc (.cells #[.slice pG 0 nG, .slice pL 0 nL, .slice pX 0 nX, .int .i64 0, .int .i64 (-1)] 41))) := Lib.hid (hr3.below (bel_alloc _ _))
        have HB4 : Hid (Below B w (w3.alloc (.cells #[.slice pG 0 nG, .slice pL 0 nL, .slice pX 0 nX, .int .i64 0, .int .i64 (-1)] 41))) := Lib.hid (hb3.trans ((bel_alloc w3 _).mono (by have := hb3.size; have := HBe.out; omega)))
        clear hr3 hk3 hb3 HH HR
        generalize w3.alloc (.cells #[.slice pG 0 nG, .slice pL 0 nL, .slice pX 0 nX, .int .i64 0, .int .i64 (-1)] 41) = w4 at *
        generalize w3.heap.size = X at *
        have HV4 : Hid (C2At w4 (.slice p M20 cap) l20) := Lib.hid (by
          have h1 := HV20.out.below (by rw [HBe.out]; exact HB4.out)
          rw [HL20.out, HM20.out] at h1
          exact h1)
        have HRS4 := Lib.hid (HRS.out w4 HV4.out)
        clear HV20W HRS
        go_upto_region 18 with (go_at_call 23; (with_reducible refine HRS4.out.mono ?_); rintro e w5 ⟨p5, n5, c5, rfl, hn5, hb5⟩; have f5 : decide ((1000 : Int) < (n5 : Int)) = false := decide_eq_false (by omega); have f6 : ¬ 1000 < n5 := by omega)
        have k5 := kb.below hb5
        have hr5 := HR4.out.below hb5
        have hb6 : Below B w w5 := HB4.out.trans (hb5.mono (by have := HB4.out.size; have := HBe.out; omega))
        clear hb5 kb HR4 HB4
        have y0 : w5.cell? ⟨X, 0, none⟩ = some (.slice pG 0 nG) := BlkIs.cell k5 0
        have y2 : w5.cell? ⟨X, 2, none⟩ = some (.slice pX 0 nX) := BlkIs.cell k5 2
        have y4 : w5.cell? ⟨X, 4, none⟩ = some (.int .i64 (-1)) := BlkIs.cell k5 4
        have HO5 := Lib.hid (HOU.out w5 hr5)
        have HB6 := Lib.hid hb6
        clear k5 hr5 hb6
        go_wp2_with (go_at_call 22; (with_reducible refine HO5.out.mono ?_); rintro e w6 ⟨rfl, hb7⟩)
        go_ret
        have hbe := HBe.out
        subst hbe
        exact ⟨rfl, bel_trans HB6.out hb7⟩
      · have e1 : decide ((0 : Int) ≤ O) = false := decide_eq_false hO0
        have i2 : IntKind.i64.wrap (O - 1) = O - 1 := by rw [IntKind.wrap_i64]; omega
        obtain ⟨y, hy, hSX⟩ := HSX.out (O - 1) (by omega) (by omega)
        have HSX2 := Lib.hid hSX
        have HH : Hid (Calls Tryz.prog 21 #[.pointer (some ⟨C, 0, none⟩), .int .u64 y, .slice p cn cap, .int .i64 5] wr fun e w' => ∃ pG nG pL nL pX nX, e = .returned (.agg #[.slice pG 0 nG, .slice pL 0 nL, .slice pX 0 nX, .int .i64 0, .int .i64 (-1)]) ∧ RecsAt L C g c w' ∧ Kept [g] wr w') := Lib.hid (unkHear HIN.out (nS_lt first) (by rw [hL.out]; omega) (by rw [hL.out]; omega) y (by unfold stepI at hy; omega) (fun j hj => by
          left
          rw [hL.out] at hj
          unfold stepI at hy
          unfold diffI nS
          omega) l C g c _ wr HR.out HVW.out)
        have e3 : decide ((2000 : Int) ≤ O - 1) = false := decide_eq_false (by omega)
        have e4 : ¬ (2000 : Int) ≤ O - 1 := by omega
        clear hy hSX
        go_upto_region 18 with (first
          | (go_at_call 16; (with_reducible refine (HSX2.out _).mono ?_); rintro e w2 ⟨rfl, rfl⟩)
          | (go_at_call 21; (with_reducible refine HH.out.mono ?_); rintro e w3 ⟨pG, nG, pL, nL, pX, nX, rfl, hr3, hk3⟩))
        have hb3 : Below B w w3 := HBW.out.trans (hk3.below (by have := HBe.out; have := HBW.out.size; omega) (by intro x hx; have := HCB.out.2; simp at hx; omega))
        have kb := BlkIs.new #[.slice pG 0 nG, .slice pL 0 nL, .slice pX 0 nX, .int .i64 0, .int .i64 (-1)] 41 w3
        have HR4 : Hid (RecsAt L C g c (w3.alloc (.cells #[.slice pG 0 nG, .slice pL 0 nL, .slice pX 0 nX, .int .i64 0, .int .i64 (-1)] 41))) := Lib.hid (hr3.below (bel_alloc _ _))
        have HB4 : Hid (Below B w (w3.alloc (.cells #[.slice pG 0 nG, .slice pL 0 nL, .slice pX 0 nX, .int .i64 0, .int .i64 (-1)] 41))) := Lib.hid (hb3.trans ((bel_alloc w3 _).mono (by have := hb3.size; have := HBe.out; omega)))
        clear hr3 hk3 hb3 HH HR
        generalize w3.alloc (.cells #[.slice pG 0 nG, .slice pL 0 nL, .slice pX 0 nX, .int .i64 0, .int .i64 (-1)] 41) = w4 at *
        generalize w3.heap.size = X at *
        have k5 := kb
        have hr5 := HR4.out
        have hb6 := HB4.out
        obtain ⟨w5, hw5⟩ : ∃ w5, w4 = w5 := ⟨_, rfl⟩
        rw [hw5] at k5 hr5 hb6 ⊢
        clear kb HR4 HB4 hw5
        have y0 : w5.cell? ⟨X, 0, none⟩ = some (.slice pG 0 nG) := BlkIs.cell k5 0
        have y2 : w5.cell? ⟨X, 2, none⟩ = some (.slice pX 0 nX) := BlkIs.cell k5 2
        have y4 : w5.cell? ⟨X, 4, none⟩ = some (.int .i64 (-1)) := BlkIs.cell k5 4
        have HO5 := Lib.hid (HOU.out w5 hr5)
        have HB6 := Lib.hid hb6
        clear k5 hr5 hb6
        go_wp2_with (go_at_call 22; (with_reducible refine HO5.out.mono ?_); rintro e w6 ⟨rfl, hb7⟩)
        go_ret
        have hbe := HBe.out
        subst hbe
        exact ⟨rfl, bel_trans HB6.out hb7⟩
/-- The first m of a row of cells that came in. -/
theorem c2_firstU {W : World} {p : Option Addr} {n c : Nat} {l : List Cel} (m : Nat) (hm : m ≤ 1073741824) (hl : l.length = n) (hn : n ≤ c) (hc : c ≤ 9223372036854775807) (hs : ∀ x ∈ l, -9223372036854775808 ≤ x.2 ∧ x.2 ≤ 9223372036854775807)
    (h : ∀ i, i < l.length → ∃ b o, p = some ⟨b, o, none⟩ ∧ b < W.heap.size ∧ W.cell? ⟨b, o + i * 2, none⟩ = some (.int .i64 (l.getD i (0, 0)).1) ∧ W.cell? ⟨b, o + i * 2 + 1, none⟩ = some (.int .i64 (l.getD i (0, 0)).2)) :
    ∃ l2 : List Cel, l2.length = min n m ∧ C2At W (.slice p l2.length c) l2 := by
  have hlen : (l.take m).length = min n m := by rw [List.length_take]; omega
  refine ⟨l.take m, hlen, ⟨p, c, rfl, by omega, hc, fun i hi => ?_⟩, by omega, fun i => ?_⟩
  · rw [getD_take_lt _ _ _ _ (by omega)]
    exact h i (by omega)
  · exact getD_prop (P := fun x : Cel => -9223372036854775808 ≤ x.2 ∧ x.2 ≤ 9223372036854775807) (fun x hx => hs x (List.mem_of_mem_take hx)) (by decide) i
end Go.Proofs.YtkpginmdnlhfbaaGreatDoor
