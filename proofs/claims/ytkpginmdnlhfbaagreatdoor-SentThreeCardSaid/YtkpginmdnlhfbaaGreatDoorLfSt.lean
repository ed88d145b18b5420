/-
  What the laid table of the weights says.
  Rows of numbers, and of pairs of numbers, that came in as arguments, opened.
  The law SentUnknown, walked.
  Package sent: a Hear of all but one, and of that one.
  The law SentThree, walked.
-/
import Derived.Test.YtkpginmdnlhfbaaGreatDoorIvalA
import Derived.Test.YtkpginmdnlhfbaaGreatDoorRows
import Derived.Lib.LaidU8
import Derived.Lib.LaidTab
import Derived.MakeChecks
import Derived.OpenShut
import Derived.Test.YtkpginmdnlhfbaaGreatDoorIntR
import Derived.Test.YtkpginmdnlhfbaaGreatDoorVecB
import Derived.ChangeSlices
import Derived.ChangeSame
import Derived.Deep.Slices
import Derived.Deep.SlicePairs
import Derived.Test.YtkpginmdnlhfbaaGreatDoorLfSn
import Derived.Test.YtkpginmdnlhfbaaGreatDoorBegun8
import Derived.Deep.RegionHeld3
import Derived.BigQuiet
import Derived.Deep.QuietTactic
namespace Go.Proofs.YtkpginmdnlhfbaaGreatDoor
open Go.ChangeShapes Go.WideShapes Go.ChangeAt Go.RowKit
set_option linter.unusedVariables false
set_option linter.unusedSimpArgs false

theorem tabW_laid {W : World} {l : List (String × DataW Unit)} (h : laidMet Tryz.prog l W) (hm : ("muleteer/ival.weights", (Rows.laid_muleteer_ival_weights : DataW Unit)) ∈ l) : TabW W := by
  obtain ⟨ps, h, _⟩ := h
  obtain ⟨g, t, cs, fuel, p, hg, ht, hvar, hd⟩ := Lib.LaidVars_reads h _ _ hm
  rw [show (Rows.laid_muleteer_ival_weights : DataW Unit) = Lib.tabData .u64 [5, 5, 5, 5, 4, 3, 2, 1] by kernel_rfl] at hd
  have e : Tryz.prog.globalNamed "muleteer/ival.weights" = some 2 := by kernel_rfl
  obtain rfl := Option.some.inj (e.symm.trans hg)
  obtain rfl : t = 212 := (Option.some.inj ((show (Tryz.prog.globals[2]?).map (·.type) = some 212 by kernel_rfl).symm.trans ht)).symm
  have hc := Lib.cells_of_tab Tryz.underlying212 Tryz.underlying22 (by kernel_rfl) (by kernel_rfl) hd
  obtain ⟨cl⟩ := cs
  simp only at hc
  subst hc
  intro i hi
  have h1 := World.var?_cell e hvar i
  rw [h1]
  obtain rfl | rfl | rfl | rfl | rfl | rfl | rfl | rfl : i = 0 ∨ i = 1 ∨ i = 2 ∨ i = 3 ∨ i = 4 ∨ i = 5 ∨ i = 6 ∨ i = 7 := by omega
  all_goals rfl
end Go.Proofs.YtkpginmdnlhfbaaGreatDoor

namespace Go.Proofs.YtkpginmdnlhfbaaGreatDoor
open Go.ChangeShapes Go.WideShapes Go.Deep Go.RowKit
set_option linter.unusedVariables false

theorem addr_plain {w : World} {a : Addr} {v : Value} (h : w.cell? (a.add 0) = some v) : ∃ b o, a = ⟨b, o, none⟩ ∧ b < w.heap.size := by
  have e : a.add 0 = a := by unfold Addr.add; split <;> simp_all
  rw [e] at h
  have hs : a.spot = none := by
    unfold World.cell? at h
    split at h
    · cases hsp : a.spot with
      | none => rfl
      | some x => rw [hsp] at h; simp at h
    · cases h
  have hb := World.block_lt_of_cell? w a h
  obtain ⟨b, o, sp⟩ := a
  simp only at hs
  subst hs
  exact ⟨b, o, rfl, hb⟩
theorem add_plain (b o k : Nat) : (⟨b, o, none⟩ : Addr).add k = ⟨b, o + k, none⟩ := by unfold Addr.add; split <;> simp_all

theorem open_row {H : Type} {enc : TypeId × Value → H} {W : World} {t e : TypeId} {k : IntKind} {p : Option Addr} {n c : Nat} {d : DataW H} {q : List MemPlace}
    (ht : Tryz.prog.underlying t = some (.slice e)) (he : Tryz.prog.underlying e = some (.int k)) (hc : Tryz.prog.cellsOf e = 1)
    (h : DataW.Trod enc Tryz.prog W 0 (fun _ => true) true t (.slice p n c) d q) :
    n ≤ c ∧ c ≤ 9223372036854775807 ∧ ∃ zs : List Int, n ≤ zs.length ∧ (∀ z ∈ zs, (Lit.int k z).wf = true) ∧ ∀ i, i < n → ∃ b o, p = some ⟨b, o, none⟩ ∧ b < W.heap.size ∧ W.cell? ⟨b, o + i, none⟩ = some (.int k (zs.getD i 0)) := by
  obtain ⟨fuel, hf⟩ := h
  rcases open_ints ht he hc hf with ⟨hcs, hx⟩ | ⟨a, len', cap', zs, hcs, _, hl, hm, hz, hx, hcell, hwz⟩
  · simp [Value.cells] at hcs
    obtain ⟨rfl, rfl, rfl⟩ := hcs
    exact ⟨by omega, by omega, [], by simp, by simp, fun i hi => absurd hi (Nat.not_lt_zero i)⟩
  · simp [Value.cells] at hcs
    obtain ⟨rfl, rfl, rfl⟩ := hcs
    simp only [if_true] at hz
    have hm' : c ≤ 9223372036854775807 := hm
    refine ⟨hl, hm', zs, by omega, hwz, fun i hi => ?_⟩
    obtain ⟨b, o, rfl, hb⟩ := addr_plain (hcell 0 (by omega))
    have h1 := hcell i (by omega)
    rw [add_plain] at h1
    exact ⟨b, o, rfl, hb, h1⟩

theorem getD_take_lt {α : Type} (l : List α) (d : α) (m i : Nat) (h : i < m) : (l.take m).getD i d = l.getD i d := by
  rw [List.getD_eq_getElem?_getD, List.getD_eq_getElem?_getD, List.getElem?_take, if_pos h]
theorem getD_prop {α : Type} {P : α → Prop} {l : List α} {d : α} (h : ∀ z ∈ l, P z) (hd : P d) (i : Nat) : P (l.getD i d) := by
  rw [List.getD_eq_getElem?_getD]
  by_cases hi : i < l.length
  · rw [List.getElem?_eq_getElem hi]; exact h _ (List.getElem_mem _)
  · rw [List.getElem?_eq_none (by omega)]; exact hd

/-- Its first m numbers, signed. -/
theorem open_i64s {H : Type} {enc : TypeId × Value → H} {W : World} {t e : TypeId} {p : Option Addr} {n c : Nat} {d : DataW H} {q : List MemPlace} (m : Nat) (hm : m ≤ 1073741824)
    (ht : Tryz.prog.underlying t = some (.slice e)) (he : Tryz.prog.underlying e = some (.int .i64)) (hc : Tryz.prog.cellsOf e = 1)
    (h : DataW.Trod enc Tryz.prog W 0 (fun _ => true) true t (.slice p n c) d q) :
    n ≤ c ∧ c ≤ 9223372036854775807 ∧ ∃ l : List Int, l.length = min n m ∧ I64At W (.slice p l.length c) l := by
  obtain ⟨h1, h2, zs, h3, h4, h5⟩ := open_row ht he hc h
  have hl : (zs.take (min n m)).length = min n m := by rw [List.length_take]; omega
  refine ⟨h1, h2, zs.take (min n m), hl, ⟨p, c, rfl, by omega, h2, fun i hi => ?_⟩, by omega, fun i => ?_⟩
  · rw [getD_take_lt _ _ _ _ (by omega)]
    exact h5 i (by omega)
  · exact getD_prop (P := fun z => -9223372036854775808 ≤ z ∧ z ≤ 9223372036854775807) (fun z hz => bounds_i64 (h4 z (List.mem_of_mem_take hz))) (by decide) i
/-- All its numbers, signed. -/
theorem open_i64w {H : Type} {enc : TypeId × Value → H} {W : World} {t e : TypeId} {p : Option Addr} {n c : Nat} {d : DataW H} {q : List MemPlace}
    (ht : Tryz.prog.underlying t = some (.slice e)) (he : Tryz.prog.underlying e = some (.int .i64)) (hc : Tryz.prog.cellsOf e = 1)
    (h : DataW.Trod enc Tryz.prog W 0 (fun _ => true) true t (.slice p n c) d q) :
    n ≤ c ∧ c ≤ 9223372036854775807 ∧ ∃ l : List Int, l.length = n ∧ ∀ i, i < l.length → ∃ b o, p = some ⟨b, o, none⟩ ∧ b < W.heap.size ∧ W.cell? ⟨b, o + i, none⟩ = some (.int .i64 (l.getD i 0)) := by
  obtain ⟨h1, h2, zs, h3, h4, h5⟩ := open_row ht he hc h
  have hl : (zs.take n).length = n := by rw [List.length_take]; omega
  refine ⟨h1, h2, zs.take n, hl, fun i hi => ?_⟩
  rw [getD_take_lt _ _ _ _ (by omega)]
  exact h5 i (by omega)
/-- Its first m numbers, without a sign. -/
theorem open_u64s {H : Type} {enc : TypeId × Value → H} {W : World} {t e : TypeId} {p : Option Addr} {n c : Nat} {d : DataW H} {q : List MemPlace} (m : Nat) (hm : m ≤ 1073741824)
    (ht : Tryz.prog.underlying t = some (.slice e)) (he : Tryz.prog.underlying e = some (.int .u64)) (hc : Tryz.prog.cellsOf e = 1)
    (h : DataW.Trod enc Tryz.prog W 0 (fun _ => true) true t (.slice p n c) d q) :
    n ≤ c ∧ c ≤ 9223372036854775807 ∧ ∃ l : List Nat, l.length = min n m ∧ U64At W (.slice p l.length c) l := by
  obtain ⟨h1, h2, zs, h3, h4, h5⟩ := open_row ht he hc h
  have hb : ∀ i, 0 ≤ zs.getD i 0 ∧ zs.getD i 0 ≤ 18446744073709551615 := fun i => getD_prop (P := fun z => 0 ≤ z ∧ z ≤ 18446744073709551615) (fun z hz => bounds_u64 (h4 z hz)) (by decide) i
  have hl : ((zs.take (min n m)).map Int.toNat).length = min n m := by rw [List.length_map, List.length_take]; omega
  have hg : ∀ i, i < min n m → ((((zs.take (min n m)).map Int.toNat).getD i 0 : Nat) : Int) = zs.getD i 0 := fun i hi => by
    have h6 := hb i
    rw [List.getD_eq_getElem?_getD] at h6
    rw [List.getD_eq_getElem?_getD, List.getD_eq_getElem?_getD, List.getElem?_map, List.getElem?_take, if_pos hi]
    have hz : i < zs.length := by omega
    rw [List.getElem?_eq_getElem hz] at h6 ⊢
    simp only [Option.getD_some, Option.map_some] at h6 ⊢
    omega
  refine ⟨h1, h2, (zs.take (min n m)).map Int.toNat, hl, ⟨p, c, rfl, by omega, h2, fun i hi => ?_⟩, by omega, fun i => ?_⟩
  · rw [hg i (by omega)]
    exact h5 i (by omega)
  · by_cases hi : i < min n m
    · have h6 := hb i
      have h7 := hg i hi
      omega
    · rw [List.getD_eq_getElem?_getD, List.getElem?_eq_none (by omega)]
      decide

/-- A row of pairs of numbers, whole. -/
theorem open_pairs {H : Type} {enc : TypeId × Value → H} {W : World} {t e : TypeId} {f0 f1 : Field} {p : Option Addr} {n c : Nat} {d : DataW H} {q : List MemPlace}
    (ht : Tryz.prog.underlying t = some (.slice e)) (he : Tryz.prog.underlying e = some (.struct #[f0, f1])) (ce : Tryz.prog.cellsOf e = 2) (o0 : f0.offset = 0) (o1 : f1.offset = 1) (c0 : Tryz.prog.cellsOf f0.type = 1) (c1 : Tryz.prog.cellsOf f1.type = 1)
    (u0 : Tryz.prog.underlying f0.type = some (.int .i64)) (u1 : Tryz.prog.underlying f1.type = some (.int .i64))
    (h : DataW.Trod enc Tryz.prog W 0 (fun _ => true) true t (.slice p n c) d q) :
    n ≤ c ∧ c ≤ 9223372036854775807 ∧ ∃ l : List Cel, l.length = n ∧ (∀ x ∈ l, -9223372036854775808 ≤ x.2 ∧ x.2 ≤ 9223372036854775807) ∧
      ∀ i, i < l.length → ∃ b o, p = some ⟨b, o, none⟩ ∧ b < W.heap.size ∧ W.cell? ⟨b, o + i * 2, none⟩ = some (.int .i64 (l.getD i (0, 0)).1) ∧ W.cell? ⟨b, o + i * 2 + 1, none⟩ = some (.int .i64 (l.getD i (0, 0)).2) := by
  obtain ⟨fuel, hf⟩ := h
  rcases open_slice_pairs ht he ce o0 o1 c0 c1 hf with ⟨hcs, hx⟩ | ⟨a, len, cap, m, n', V0, V1, D0, D1, P0, P1, hcs, _, hl, hm, hmm, hx, hi⟩
  · simp [Value.cells] at hcs
    obtain ⟨rfl, rfl, rfl⟩ := hcs
    exact ⟨by omega, by omega, [], rfl, by simp, fun i hi => absurd hi (Nat.not_lt_zero i)⟩
  · simp [Value.cells] at hcs
    obtain ⟨rfl, rfl, rfl⟩ := hcs
    have hm' : c ≤ 9223372036854775807 := hm
    simp only [if_true] at hmm
    have key : ∀ i, i < n → ∃ x : Cel, V0 i = .int .i64 x.1 ∧ V1 i = .int .i64 x.2 ∧ (-9223372036854775808 ≤ x.2 ∧ x.2 ≤ 9223372036854775807) := by
      intro i hin
      obtain ⟨_, _, k0, k1⟩ := hi i (by omega)
      obtain ⟨z0, hz0, _, _⟩ := DataW.trod_int u0 k0
      obtain ⟨z1, hz1, _, hw1⟩ := DataW.trod_int u1 k1
      simp at hz0 hz1
      exact ⟨(z0, z1), hz0, hz1, bounds_i64 hw1⟩
    have hlist : ∀ m', m' ≤ n → ∃ l : List Cel, l.length = m' ∧ (∀ x ∈ l, -9223372036854775808 ≤ x.2 ∧ x.2 ≤ 9223372036854775807) ∧ ∀ i, i < m' → V0 i = .int .i64 (l.getD i (0, 0)).1 ∧ V1 i = .int .i64 (l.getD i (0, 0)).2 := by
      intro m'
      induction m' with
      | zero => exact fun _ => ⟨[], rfl, by simp, fun i hi => absurd hi (Nat.not_lt_zero i)⟩
      | succ m' ih =>
        intro hmn
        obtain ⟨l, hl1, hl2, hl3⟩ := ih (by omega)
        obtain ⟨x, hx0, hx1, hx2⟩ := key m' (by omega)
        refine ⟨l ++ [x], by simp [hl1], fun y hy => ?_, fun i hi' => ?_⟩
        · rcases List.mem_append.1 hy with h8 | h8
          · exact hl2 y h8
          · rw [List.mem_singleton.1 h8]; exact hx2
        · by_cases e' : i < m'
          · have h9 := hl3 i e'
            rw [List.getD_eq_getElem?_getD] at h9 ⊢
            rwa [List.getElem?_append_left (by omega)]
          · obtain rfl : i = m' := by omega
            rw [List.getD_eq_getElem?_getD, List.getElem?_append_right (by omega), hl1]
            simpa using ⟨hx0, hx1⟩
    obtain ⟨l, hl1, hl2, hl3⟩ := hlist n (Nat.le_refl _)
    refine ⟨hl, hm', l, hl1, hl2, fun i hi' => ?_⟩
    have h0 := (hi 0 (by omega)).1
    rw [Nat.zero_mul] at h0
    obtain ⟨b, o, rfl, hb⟩ := addr_plain h0
    obtain ⟨h6, h7, _, _⟩ := hi i (by omega)
    obtain ⟨h8, h9⟩ := hl3 i (by omega)
    rw [add_plain] at h6 h7
    rw [h8] at h6
    rw [h9] at h7
    exact ⟨b, o, rfl, hb, h6, h7⟩
end Go.Proofs.YtkpginmdnlhfbaaGreatDoor

namespace Go.Proofs.YtkpginmdnlhfbaaGreatDoor
open Go.ChangeShapes Go.WideShapes Go.ChangeAt Go.RowKit
set_option linter.unusedVariables false
set_option linter.unusedSimpArgs false

/-- The number i steps on. -/
def nS (first i : Nat) : Nat := (first + i) % 281474976710656
theorem nS_step (first i : Nat) : stepI first (i : Int) = (nS first i : Int) := by unfold stepI nS; omega
theorem nS_lt (first i : Nat) : nS first i < 281474976710656 := Nat.mod_lt _ (by decide)
theorem nS_next (first j : Nat) (hj : j < 200) : diffI (nS first j) (nS first (j + 1)) < 0 := by unfold diffI nS; omega
theorem own_shape {w : World} {B T sz n : Nat} {v : Value} {xs : List Value} (h : w.ownsRow B T sz v n xs) : ∃ p c, v = .slice p n c := by
  rcases h.2 with ⟨rfl, h0⟩ | ⟨g, cap, cur, rfl, _⟩
  · exact ⟨none, 0, by rw [h0]⟩
  · exact ⟨_, _, rfl⟩
theorem told_far (T : List Int) (hT : T.length ≤ 1000) (d : Int) (hd : d < 0 ∨ 1000 ≤ d) : M.told T d = 3 := by
  unfold M.told
  by_cases h : d < 0
  · rw [if_pos h]
  · rw [if_neg h, List.getD_eq_getElem?_getD, List.getElem?_eq_none (by omega)]
    rfl
theorem lose_out {s : Nat → Nat} {T : Int} {L : List Rec} (h : SntI s T L) : (LsS.upto L L.length).ns = [] ∧ (LsS.upto L L.length).recs = L :=
  lose_no L fun k hk h0 => by
    have : (LsS.upto L k).b = 0 := lose_b0 L k (by omega) (fun i h2 h3 => by rw [h.out i h3]; decide)
    omega
theorem unkHear {s : Nat → Nat} {L : List Rec} (hI : SntI s 0 L) (hs : ∀ j, s j < 281474976710656) (hL0 : 0 < L.length) (hL : L.length ≤ 200) (ack : Nat) (hack : ack < 18446744073709551616) (hfar : ∀ i, i < L.length → diffI ack (s i) < 0 ∨ 1000 ≤ diffI ack (s i)) (l : List Cel) (C g c : Nat) (v : Value) (w : World) (h : RecsAt L C g c w) (hv : C2Wd w v l) :
    Calls Tryz.prog 21 #[.pointer (some ⟨C, 0, none⟩), .int .u64 ack, v, .int .i64 5] w fun e w' => ∃ pG nG pL nL pX nX, e = .returned (.agg #[.slice pG 0 nG, .slice pL 0 nL, .slice pX 0 nX, .int .i64 0, .int .i64 (-1)]) ∧ RecsAt L C g c w' ∧ Kept [g] w w' := by
  cases hm : mayF 0 l with
  | false =>
    refine (sentHear_bad C ack 5 l hm v w hv).mono ?_
    rintro e w' ⟨rfl, hb⟩
    exact ⟨none, 0, none, 0, none, 0, rfl, h.below hb, Kept.of_below _ hb⟩
  | true =>
    have hl := spread_len l 0 (by decide) (by decide) hm
    exact hearNone hL0 hL (fun i hi => by rw [hI.num i hi]; have := hs i; omega) ack hack 5 (by decide) (fun i hi => by
      have h1 := hI.time i hi
      exact ⟨h1.1, by omega, .inl (hI.out i hi)⟩) l hm (fun i hi => by
      left
      rw [hI.num i hi]
      exact told_far _ (by omega) _ (hfar i hi)) (lose_out hI) C g c v w h (hv.at hm)
theorem sntRecs {s : Nat → Nat} {T : Int} {L : List Rec} {C B : Nat} {v : Value} {w0 W : World} (h : SntW s T L C B v w0 W) (hL : 0 < L.length) : ∃ g c, RecsAt L C g c W ∧ B ≤ g := by
  obtain ⟨g, c, e, _⟩ := h.at_.row.shape hL
  have h1 := h.at_
  rw [e] at h1
  exact ⟨g, c, h1.recs hL, h.blk g (by rw [e]; rfl)⟩
set_option maxHeartbeats 8000000 in
set_option maxRecDepth 100000 in
theorem sentUnknown_walk (first : Nat) (hfi : first < 18446744073709551616) (nn oo : Int) (n1 : -9223372036854775808 ≤ nn) (n2 : nn ≤ 9223372036854775807) (m1 : -9223372036854775808 ≤ oo) (m2 : oo ≤ 9223372036854775807) (p : Option Addr) (cn cap : Nat) (hcc : cn ≤ cap) (hcm : cap ≤ 9223372036854775807) (l l20 : List Cel) (hl : l.length = cn) (w : World) (hT : TabW w) (hv : C2Wd w (.slice p cn cap) l) (hl20 : l20.length = min cn 20) (hv20 : C2At w (.slice p l20.length cap) l20) :
    Calls Tryz.prog 5 #[.int .u64 first, .int .i64 nn, .int .i64 oo, .slice p cn cap] w fun e w' => e = .returned (.bool true) ∧ Below w.heap.size w w' := by
  have HBG : Hid (Calls Tryz.prog 13 #[] w fun e w' => e = .returned (.bool true) ∧ Below w.heap.size w w') := Lib.hid (begun8_any w hT)
  clear hT
  obtain ⟨a, ha, a1, a2, J, hJ, hJ3⟩ := mod_at nn 20 (by decide)
  obtain ⟨N, hN⟩ : ∃ N : Nat, 1 + (J : Int) = (N : Int) := ⟨1 + J, by omega⟩
  have hN1 : 1 ≤ N := by omega
  have hN2 : N < 21 := by omega
  obtain ⟨O, hO, o1, o2, _⟩ := mod_at oo 1099511627776 (by decide)
  obtain ⟨B, hB⟩ : ∃ B, w.heap.size = B := ⟨_, rfl⟩
  have HBe := Lib.hid hB
  have HST : Hid (∀ i : Nat, i ≤ 100 → ∀ W, Calls Tryz.prog 16 #[.int .u64 first, .int .i64 i] W fun e w' => e = .returned (.int .u64 (nS first i : Int)) ∧ W = w') := Lib.hid (fun i hi W => by rw [← nS_step]; exact refStep_any first i hfi (by omega) (by omega) W)
  have HSX : Hid (∀ x : Int, -9223372036854775808 ≤ x → x ≤ 9223372036854775807 → ∃ y : Nat, stepI first x = (y : Int) ∧ ∀ W, Calls Tryz.prog 16 #[.int .u64 first, .int .i64 x] W fun e w' => e = .returned (.int .u64 (y : Int)) ∧ W = w') := Lib.hid (fun x h1 h2 => ⟨(stepI first x).toNat, by unfold stepI; omega, fun W => by
    have h3 := refStep_any first x hfi h1 h2 W
    rw [show stepI first x = (((stepI first x).toNat : Nat) : Int) by unfold stepI; omega] at h3
    exact h3⟩)
  have HV := Lib.hid hv
  have HV20 := Lib.hid hv20
  have HL := Lib.hid hl
  have HL20 := Lib.hid hl20
  clear hv hv20 hl hl20
  go_enter Tryz.func5, Tryz.ntmps5
  go_upto_region 6 with (first
    | (go_at_call 13; (with_reducible refine HBG.out.mono ?_); rintro e w0 ⟨rfl, hb0⟩)
    | (go_at_call 19; (with_reducible refine (sentNew_any _).mono ?_); rintro e w1 ⟨C, rfl, hg1, hc1, hb1⟩))
  have HI0 : Hid (SntW (nS first) 0 [] C B (.slice none 0 0) w w1) := Lib.hid (SntW.start _ C B w w1 hg1 (by rw [← hB]; exact bel_trans hb0 hb1) ⟨by rw [← hB]; exact Nat.le_trans hb0.size hc1, hB⟩)
  clear hb0 hg1 hc1 hb1 ha hJ hN hB
  go_wp2
  go_loopw [11] (fun iv wr => ∃ (i : Nat) (L : List Rec) (v : Value), iv = .int .i64 (i : Int) ∧ i ≤ N ∧ Hid (L.length = i) ∧ Hid (SntW (nS first) 0 L C B v w wr)) (fun iv _ => N - (intOf iv).toNat)
  case atStart => exact ⟨0, [], _, rfl, Nat.zero_le _, Lib.hid rfl, HI0⟩
  case round =>
    clear HI0
    obtain ⟨i, L, v, rfl, hi, hL, hI⟩ := hrel
    by_cases hlt : i < N
    · have d1 : decide ((i : Int) < (N : Int)) = true := decide_eq_true (by omega)
      have HSI := Lib.hid (HST.out i (by omega))
      have HP : Hid (Calls Tryz.prog 20 #[.pointer (some ⟨C, 0, none⟩), .int .u64 (nS first i), .int .i64 0] wr fun e w' => e = .returned (.bool true) ∧ ∃ v', SntW (nS first) 0 (L ++ [(nS first L.length, 0, 0)]) C B v' w w' ∧ (∃ g c, v' = .slice (some ⟨g, 0, none⟩) (L.length + 1) c) ∧ Kept (C :: own v) wr w') := Lib.hid (by
        have h1 := hI.out.put (T2 := 0) (nS_lt first) (nS_next first) (by rw [hL.out]; omega) (Int.le_refl _) (Int.le_refl _) (by decide)
        rw [hL.out] at h1 ⊢
        exact h1)
      go_wp2_with (first
        | (go_at_call 16; (with_reducible refine (HSI.out _).mono ?_); rintro e w2 ⟨rfl, rfl⟩)
        | (go_at_call 20; (with_reducible refine HP.out.mono ?_); rintro e w3 ⟨rfl, v3, hI3, _, _⟩))
      refine ⟨⟨i + 1, _, v3, by go_num, by omega, Lib.hid (by rw [List.length_append, hL.out]; rfl), Lib.hid hI3⟩, ?_⟩
      simp [intOf]; omega
    · have d1 : decide ((i : Int) < (N : Int)) = false := decide_eq_false (by omega)
      obtain rfl : i = N := by omega
      obtain ⟨g, c, hr, hgB⟩ := sntRecs hI.out (by rw [hL.out]; omega)
      have HR := Lib.hid hr
      have HIN := Lib.hid hI.out.inv
      have HBW := Lib.hid hI.out.below
      have HCB := Lib.hid (show B ≤ C ∧ B ≤ g from ⟨hI.out.size.1, hgB⟩)
      have HOU : Hid (∀ W, RecsAt L C g c W → Calls Tryz.prog 22 #[.pointer (some ⟨C, 0, none⟩)] W fun e w' => e = .returned (.int .i64 (i : Int)) ∧ Below W.heap.size W w') := Lib.hid (fun W hW => by
        have h1 := sentOut_any L (by rw [hL.out]; omega) C g c W hW
        rw [HIN.out.outs, hL.out] at h1
        exact h1)
      have HVW := Lib.hid (HV.out.below (by rw [HBe.out]; exact HBW.out))
      have HV20W := Lib.hid (HV20.out.below (by rw [HBe.out]; exact HBW.out))
      clear hr hgB hI HST HV
      by_cases hO0 : 0 ≤ O
      · have e1 : decide ((0 : Int) ≤ O) = true := decide_eq_true hO0
        obtain ⟨M20, hM20⟩ : ∃ M20, min cn 20 = M20 := ⟨_, rfl⟩
        obtain ⟨q1, q2, q3, q4, q5, q6⟩ := mns cn 20 M20 hM20
        have q1' : (if (20 : Int) < (cn : Int) then (20 : Int) else (cn : Int)) = (M20 : Int) := q1
        have q2' : (if 20 < cn then (20 : Int) else (cn : Int)) = (M20 : Int) := q2
        have q3' : min (cn : Int) 20 = (M20 : Int) := q3
        have hMc : M20 ≤ cap := by omega
        have hL20 := HL20.out
        rw [hM20] at hL20
        rw [hL20] at HV20W
        obtain ⟨y, hy, hSX⟩ := HSX.out (2000 + O) (by omega) (by omega)
        have HSX2 := Lib.hid hSX
        have HH : Hid (Calls Tryz.prog 21 #[.pointer (some ⟨C, 0, none⟩), .int .u64 y, .slice p M20 cap, .int .i64 5] wr fun e w' => ∃ pG nG pL nL pX nX, e = .returned (.agg #[.slice pG 0 nG, .slice pL 0 nL, .slice pX 0 nX, .int .i64 0, .int .i64 (-1)]) ∧ RecsAt L C g c w' ∧ Kept [g] wr w') := Lib.hid (unkHear HIN.out (nS_lt first) (by rw [hL.out]; omega) (by rw [hL.out]; omega) y (by unfold stepI at hy; omega) (fun j hj => by
          right
          rw [hL.out] at hj
          unfold stepI at hy
          unfold diffI nS
          omega) l20 C g c _ wr HR.out ⟨by have := HV20W.out.at_; rw [hL20]; rw [hL20] at this; exact this, HV20W.out.small⟩)
        have HRS : Hid (∀ W, C2At W (.slice p M20 cap) l20 → Calls Tryz.prog 23 #[.slice p M20 cap] W fun e w' => ∃ p n c, e = .returned (.slice p n c) ∧ n ≤ 1000 ∧ Below W.heap.size W w') := Lib.hid (fun W hW => (refSpread_any _ l20 W hW).mono (by
          rintro e w' ⟨v', rfl, h1⟩
          obtain ⟨p', c', rfl⟩ := own_shape h1.1
          refine ⟨p', _, c', rfl, ?_, h1.2.1⟩
          unfold spreadR
          split
          · rename_i hmf
            have := spread_len l20 0 (by decide) (by decide) hmf
            omega
          · simp))
        have e3 : decide ((2000 : Int) ≤ 2000 + O) = true := decide_eq_true (by omega)
        have HM20 := Lib.hid hM20
        clear hy hSX hL20 hM20 q1 q2 q3
        go_upto_region 16 with (first
          | (go_at_call 16; (with_reducible refine (HSX2.out _).mono ?_); rintro e w2 ⟨rfl, rfl⟩)
          | (go_at_call 21; (with_reducible refine HH.out.mono ?_); rintro e w3 ⟨pG, nG, pL, nL, pX, nX, rfl, hr3, hk3⟩))
        have hb3 : Below B w w3 := HBW.out.trans (hk3.below (by have := HBe.out; have := HBW.out.size; omega) (by intro x hx; have := HCB.out.2; simp at hx; omega))
        have kb := BlkIs.new #[.slice pG 0 nG, .slice pL 0 nL, .slice pX 0 nX, .int .i64 0, .int .i64 (-1)] 41 w3
        have HR4 : Hid (RecsAt L C g c (w3.alloc (.cells #[.slice pG 0 nG, .slice pL 0 nL, .slice pX 0 nX, .int .i64 0, .int .i64 (-1)] 41))) := Lib.hid (hr3.below (bel_alloc _ _))
        have HB4 : Hid (Below B w (w3.alloc (.cells #[.slice pG 0 nG, .slice pL 0 nL, .slice pX 0 nX, .int .i64 0, .int .i64 (-1)] 41))) := Lib.hid (hb3.trans ((bel_alloc w3 _).mono (by have := hb3.size; have := HBe.out; omega)))
        clear hr3 hk3 hb3 HH HR
        generalize w3.alloc (.cells #[.slice pG 0 nG, .slice pL 0 nL, .slice pX 0 nX, .int .i64 0, .int .i64 (-1)] 41) = w4 at *
        generalize w3.heap.size = X at *
        have HV4 : Hid (C2At w4 (.slice p M20 cap) l20) := Lib.hid (by
          have h1 := HV20.out.below (by rw [HBe.out]; exact HB4.out)
          rw [HL20.out, HM20.out] at h1
          exact h1)
        have HRS4 := Lib.hid (HRS.out w4 HV4.out)
        clear HV20W HRS
        go_upto_region 18 with (go_at_call 23; (with_reducible refine HRS4.out.mono ?_); rintro e w5 ⟨p5, n5, c5, rfl, hn5, hb5⟩; have f5 : decide ((1000 : Int) < (n5 : Int)) = false := decide_eq_false (by omega); have f6 : ¬ 1000 < n5 := by omega)
        have k5 := kb.below hb5
        have hr5 := HR4.out.below hb5
        have hb6 : Below B w w5 := HB4.out.trans (hb5.mono (by have := HB4.out.size; have := HBe.out; omega))
        clear hb5 kb HR4 HB4
        have y0 : w5.cell? ⟨X, 0, none⟩ = some (.slice pG 0 nG) := BlkIs.cell k5 0
        have y2 : w5.cell? ⟨X, 2, none⟩ = some (.slice pX 0 nX) := BlkIs.cell k5 2
        have y4 : w5.cell? ⟨X, 4, none⟩ = some (.int .i64 (-1)) := BlkIs.cell k5 4
        have HO5 := Lib.hid (HOU.out w5 hr5)
        have HB6 := Lib.hid hb6
        clear k5 hr5 hb6
        go_wp2_with (go_at_call 22; (with_reducible refine HO5.out.mono ?_); rintro e w6 ⟨rfl, hb7⟩)
        go_ret
        have hbe := HBe.out
        subst hbe
        exact ⟨rfl, bel_trans HB6.out hb7⟩
      · have e1 : decide ((0 : Int) ≤ O) = false := decide_eq_false hO0
        have i2 : IntKind.i64.wrap (O - 1) = O - 1 := by rw [IntKind.wrap_i64]; omega
        obtain ⟨y, hy, hSX⟩ := HSX.out (O - 1) (by omega) (by omega)
        have HSX2 := Lib.hid hSX
        have HH : Hid (Calls Tryz.prog 21 #[.pointer (some ⟨C, 0, none⟩), .int .u64 y, .slice p cn cap, .int .i64 5] wr fun e w' => ∃ pG nG pL nL pX nX, e = .returned (.agg #[.slice pG 0 nG, .slice pL 0 nL, .slice pX 0 nX, .int .i64 0, .int .i64 (-1)]) ∧ RecsAt L C g c w' ∧ Kept [g] wr w') := Lib.hid (unkHear HIN.out (nS_lt first) (by rw [hL.out]; omega) (by rw [hL.out]; omega) y (by unfold stepI at hy; omega) (fun j hj => by
          left
          rw [hL.out] at hj
          unfold stepI at hy
          unfold diffI nS
          omega) l C g c _ wr HR.out HVW.out)
        have e3 : decide ((2000 : Int) ≤ O - 1) = false := decide_eq_false (by omega)
        have e4 : ¬ (2000 : Int) ≤ O - 1 := by omega
        clear hy hSX
        go_upto_region 18 with (first
          | (go_at_call 16; (with_reducible refine (HSX2.out _).mono ?_); rintro e w2 ⟨rfl, rfl⟩)
          | (go_at_call 21; (with_reducible refine HH.out.mono ?_); rintro e w3 ⟨pG, nG, pL, nL, pX, nX, rfl, hr3, hk3⟩))
        have hb3 : Below B w w3 := HBW.out.trans (hk3.below (by have := HBe.out; have := HBW.out.size; omega) (by intro x hx; have := HCB.out.2; simp at hx; omega))
        have kb := BlkIs.new #[.slice pG 0 nG, .slice pL 0 nL, .slice pX 0 nX, .int .i64 0, .int .i64 (-1)] 41 w3
        have HR4 : Hid (RecsAt L C g c (w3.alloc (.cells #[.slice pG 0 nG, .slice pL 0 nL, .slice pX 0 nX, .int .i64 0, .int .i64 (-1)] 41))) := Lib.hid (hr3.below (bel_alloc _ _))
        have HB4 : Hid (Below B w (w3.alloc (.cells #[.slice pG 0 nG, .slice pL 0 nL, .slice pX 0 nX, .int .i64 0, .int .i64 (-1)] 41))) := Lib.hid (hb3.trans ((bel_alloc w3 _).mono (by have := hb3.size; have := HBe.out; omega)))
        clear hr3 hk3 hb3 HH HR
        generalize w3.alloc (.cells #[.slice pG 0 nG, .slice pL 0 nL, .slice pX 0 nX, .int .i64 0, .int .i64 (-1)] 41) = w4 at *
        generalize w3.heap.size = X at *
        have k5 := kb
        have hr5 := HR4.out
        have hb6 := HB4.out
        obtain ⟨w5, hw5⟩ : ∃ w5, w4 = w5 := ⟨_, rfl⟩
        rw [hw5] at k5 hr5 hb6 ⊢
        clear kb HR4 HB4 hw5
        have y0 : w5.cell? ⟨X, 0, none⟩ = some (.slice pG 0 nG) := BlkIs.cell k5 0
        have y2 : w5.cell? ⟨X, 2, none⟩ = some (.slice pX 0 nX) := BlkIs.cell k5 2
        have y4 : w5.cell? ⟨X, 4, none⟩ = some (.int .i64 (-1)) := BlkIs.cell k5 4
        have HO5 := Lib.hid (HOU.out w5 hr5)
        have HB6 := Lib.hid hb6
        clear k5 hr5 hb6
        go_wp2_with (go_at_call 22; (with_reducible refine HO5.out.mono ?_); rintro e w6 ⟨rfl, hb7⟩)
        go_ret
        have hbe := HBe.out
        subst hbe
        exact ⟨rfl, bel_trans HB6.out hb7⟩
/-- The first m of a row of cells that came in. -/
theorem c2_firstU {W : World} {p : Option Addr} {n c : Nat} {l : List Cel} (m : Nat) (hm : m ≤ 1073741824) (hl : l.length = n) (hn : n ≤ c) (hc : c ≤ 9223372036854775807) (hs : ∀ x ∈ l, -9223372036854775808 ≤ x.2 ∧ x.2 ≤ 9223372036854775807)
    (h : ∀ i, i < l.length → ∃ b o, p = some ⟨b, o, none⟩ ∧ b < W.heap.size ∧ W.cell? ⟨b, o + i * 2, none⟩ = some (.int .i64 (l.getD i (0, 0)).1) ∧ W.cell? ⟨b, o + i * 2 + 1, none⟩ = some (.int .i64 (l.getD i (0, 0)).2)) :
    ∃ l2 : List Cel, l2.length = min n m ∧ C2At W (.slice p l2.length c) l2 := by
  have hlen : (l.take m).length = min n m := by rw [List.length_take]; omega
  refine ⟨l.take m, hlen, ⟨p, c, rfl, by omega, hc, fun i hi => ?_⟩, by omega, fun i => ?_⟩
  · rw [getD_take_lt _ _ _ _ (by omega)]
    exact h i (by omega)
  · exact getD_prop (P := fun x : Cel => -9223372036854775808 ≤ x.2 ∧ x.2 ≤ 9223372036854775807) (fun x hx => hs x (List.mem_of_mem_take hx)) (by decide) i
end Go.Proofs.YtkpginmdnlhfbaaGreatDoor

namespace Go.Proofs.YtkpginmdnlhfbaaGreatDoor
open Go.ChangeShapes Go.WideShapes Go.ChangeAt Go.RowKit
set_option linter.unusedVariables false
set_option linter.unusedSimpArgs false

/-- All were got but the one at H, whose state is z. -/
structure HoleI (H : Nat) (z : Int) (L L1 : List Rec) : Prop where
  len : L1.length = L.length
  get : ∀ i, i < L.length → L1.getD i (0, 0, 0) = ((L.getD i (0, 0, 0)).1, (L.getD i (0, 0, 0)).2.1, if i = H then z else 1)
theorem hear_hole (q : Rec → Int) (now : Int) (L : List Rec) (H : Nat) (hH : H < L.length) (h0 : ∀ i, i < L.length → (L.getD i (0, 0, 0)).2.2 = 0) (h : ∀ i, i < L.length → q (L.getD i (0, 0, 0)) = if i = H then 3 else 0) :
    (HrS.upto q now L L.length).gs.length = L.length - 1 ∧ (HrS.upto q now L L.length).ls = [] ∧ (HrS.upto q now L L.length).marks = 0 ∧ HoleI H 0 L (HrS.upto q now L L.length).recs := by
  have key : ∀ k, k ≤ L.length → (HrS.upto q now L k).gs.length = k - (if H < k then 1 else 0) ∧ (HrS.upto q now L k).ls = [] ∧ (HrS.upto q now L k).marks = 0 := by
    intro k
    induction k with
    | zero => intro _; exact ⟨rfl, rfl, rfl⟩
    | succ k ih =>
      intro hk
      obtain ⟨i1, i2, i3⟩ := ih (by omega)
      have hz := h0 k (by omega)
      have hq := h k (by omega)
      rw [HrS.gs_succ q now L k (by omega), HrS.ls_succ q now L k (by omega), HrS.marks_succ q now L k (by omega), List.length_append, i1, i2, i3, hq]
      unfold M.takeG M.takeL M.takeM
      rw [hz]
      by_cases hk2 : k = H
      · subst hk2
        rw [if_pos rfl]
        refine ⟨by simp, by simp, by simp⟩
      · rw [if_neg hk2]
        refine ⟨?_, by simp, by simp⟩
        simp
        by_cases h3 : H < k
        · rw [if_pos h3, if_pos (by omega)]; omega
        · rw [if_neg h3, if_neg (by omega)]; omega
  obtain ⟨k1, k2, k3⟩ := key L.length (Nat.le_refl _)
  refine ⟨by rw [k1, if_pos hH], k2, k3, HrS.upto_len q now L L.length, fun i hi => ?_⟩
  rw [HrS.upto_get q now L L.length i hi, if_pos hi, h i hi]
  unfold M.takeR
  have hz := h0 i hi
  by_cases h1 : i = H
  · rw [if_pos h1, if_pos h1, if_pos (.inl rfl)]
    exact Prod.ext rfl (Prod.ext rfl hz)
  · rw [if_neg h1, if_neg h1, if_neg (by rw [hz]; decide)]
theorem LsS.step_got {s : LsS} {i : Nat} (h : (s.recs.getD i (0, 0, 0)).2.2 = 1) : s.step i = ⟨s.b + 1, s.ns, s.recs⟩ := by unfold LsS.step; rw [if_pos h]
theorem lose_hole {H : Nat} {L L1 : List Rec} (hG : HoleI H 0 L L1) (hH : H < L.length) :
    (LsS.upto L1 L1.length).ns.length = (if 3 ≤ L.length - 1 - H then 1 else 0) ∧ HoleI H (if 3 ≤ L.length - 1 - H then 2 else 0) L (LsS.upto L1 L1.length).recs := by
  have hl := hG.len
  have k1 : ∀ k, k ≤ L.length - 1 - H → LsS.upto L1 k = ⟨k, [], L1⟩ := by
    intro k
    induction k with
    | zero => intro _; rfl
    | succ k ih =>
      intro hk
      have e := ih (by omega)
      show (LsS.upto L1 k).step (L1.length - 1 - k) = _
      rw [e, LsS.step_got (by
        show (L1.getD (L1.length - 1 - k) (0, 0, 0)).2.2 = 1
        rw [hG.get _ (by omega)]
        show (if L1.length - 1 - k = H then (0 : Int) else 1) = 1
        rw [if_neg (by omega)])]
  have e0 := k1 (L.length - 1 - H) (Nat.le_refl _)
  have hst : (L1.getD H (0, 0, 0)).2.2 = 0 := by
    rw [hG.get H hH]
    show (if H = H then (0 : Int) else 1) = 0
    rw [if_pos rfl]
  obtain ⟨R, hR⟩ : ∃ R, LsS.upto L1 (L.length - H) = R := ⟨_, rfl⟩
  have hR2 : R.ns.length = (if 3 ≤ L.length - 1 - H then 1 else 0) ∧ HoleI H (if 3 ≤ L.length - 1 - H then 2 else 0) L R.recs := by
    rw [← hR, show L.length - H = (L.length - 1 - H) + 1 by omega]
    show ((LsS.upto L1 (L.length - 1 - H)).step (L1.length - 1 - (L.length - 1 - H))).ns.length = _ ∧ HoleI H _ L ((LsS.upto L1 (L.length - 1 - H)).step (L1.length - 1 - (L.length - 1 - H))).recs
    rw [e0, show L1.length - 1 - (L.length - 1 - H) = H by omega]
    unfold LsS.step
    simp only
    rw [hst, if_neg (by decide)]
    by_cases h3 : 3 ≤ L.length - 1 - H
    · rw [if_pos ⟨rfl, h3⟩, if_pos h3, if_pos h3]
      refine ⟨rfl, by rw [List.length_set]; exact hl, fun i hi => ?_⟩
      rw [List.getD_eq_getElem?_getD, List.getElem?_set]
      by_cases h1 : H = i
      · subst h1
        rw [if_pos rfl, if_pos (by omega), if_pos rfl, hG.get H hH]
        rfl
      · rw [if_neg h1, ← List.getD_eq_getElem?_getD, hG.get i hi, if_neg (fun e => h1 e.symm), if_neg (fun e => h1 e.symm)]
    · rw [if_neg (fun h => h3 h.2), if_neg h3, if_neg h3]
      exact ⟨rfl, hG⟩
  have k2 : ∀ k, L.length - H + k ≤ L.length → (LsS.upto L1 (L.length - H + k)).ns = R.ns ∧ (LsS.upto L1 (L.length - H + k)).recs = R.recs := by
    intro k
    induction k with
    | zero => intro _; rw [Nat.add_zero, hR]; exact ⟨rfl, rfl⟩
    | succ k ih =>
      intro hk
      obtain ⟨i1, i2⟩ := ih (by omega)
      show ((LsS.upto L1 (L.length - H + k)).step (L1.length - 1 - (L.length - H + k))).ns = _ ∧ ((LsS.upto L1 (L.length - H + k)).step (L1.length - 1 - (L.length - H + k))).recs = _
      rw [LsS.step_got (by
        rw [i2, hR2.2.get _ (by omega)]
        show (if L1.length - 1 - (L.length - H + k) = H then _ else (1 : Int)) = 1
        rw [if_neg (by omega)])]
      exact ⟨i1, i2⟩
  obtain ⟨j1, j2⟩ := k2 H (by omega)
  rw [show L.length - H + H = L1.length by omega] at j1 j2
  rw [j1, j2]
  exact hR2
/-- The one that was not got is told of. -/
theorem hear_late (q : Rec → Int) (now : Int) (L L2 : List Rec) (H : Nat) (z : Int) (hz : z = 0 ∨ z = 2) (hG : HoleI H z L L2) (hH : H < L.length) (h : ∀ i, i < L.length → q (L2.getD i (0, 0, 0)) = if i = H then 1 else 0) :
    (HrS.upto q now L2 L2.length).gs.length = (if z = 0 then 1 else 0) ∧ (HrS.upto q now L2 L2.length).ls.length = (if z = 0 then 0 else 1) ∧ (HrS.upto q now L2 L2.length).marks = 1 ∧ (HrS.upto q now L2 L2.length).rtt = (if z = 0 then now - (L.getD H (0, 0, 0)).2.1 else -1) ∧ HoleI H 1 L (HrS.upto q now L2 L2.length).recs := by
  have hl := hG.len
  have key : ∀ k, k ≤ L.length → (HrS.upto q now L2 k).gs.length = (if H < k ∧ z = 0 then 1 else 0) ∧ (HrS.upto q now L2 k).ls.length = (if H < k ∧ z ≠ 0 then 1 else 0) ∧ (HrS.upto q now L2 k).marks = (if H < k then 1 else 0) ∧ (HrS.upto q now L2 k).rtt = (if H < k ∧ z = 0 then now - (L.getD H (0, 0, 0)).2.1 else -1) := by
    intro k
    induction k with
    | zero => intro _; exact ⟨rfl, rfl, rfl, rfl⟩
    | succ k ih =>
      intro hk
      obtain ⟨i1, i2, i3, i4⟩ := ih (by omega)
      have hq := h k (by omega)
      have hg := hG.get k (by omega)
      rw [HrS.gs_succ q now L2 k (by omega), HrS.ls_succ q now L2 k (by omega), HrS.marks_succ q now L2 k (by omega), HrS.rtt_succ q now L2 k (by omega), List.length_append, List.length_append, i1, i2, i3, i4, hq, hg]
      unfold M.takeG M.takeL M.takeM M.takeT
      by_cases hk2 : k = H
      · subst hk2
        rcases hz with rfl | rfl
        · simp
        · simp
      · simp only [if_neg hk2]
        by_cases h3 : H < k
        · have h4 : H < k + 1 := by omega
          simp [h3, h4]
        · have h4 : ¬ H < k + 1 := by omega
          simp [h3, h4]
  obtain ⟨k1, k2, k3, k4⟩ := key L.length (Nat.le_refl _)
  rw [hl]
  refine ⟨?_, ?_, ?_, ?_, by rw [HrS.upto_len]; exact hl, fun i hi => ?_⟩
  · rw [k1]; simp [hH]
  · rw [k2]; simp only [hH, true_and]; rcases hz with rfl | rfl <;> decide
  · rw [k3, if_pos hH]
  · rw [k4]; simp [hH]
  · rw [HrS.upto_get q now L2 L.length i (by omega), if_pos hi, h i hi]
    unfold M.takeR
    rw [hG.get i hi]
    by_cases h1 : i = H
    · rw [if_pos h1, if_pos h1, if_pos h1]
      rcases hz with rfl | rfl <;> simp
    · rw [if_neg h1, if_neg h1, if_neg h1]
      simp
theorem lose_got {H : Nat} {L L3 : List Rec} (hG : HoleI H 1 L L3) : (LsS.upto L3 L3.length).ns = [] ∧ (LsS.upto L3 L3.length).recs = L3 :=
  lose_no L3 fun k hk h0 => by
    have hl := hG.len
    rw [hG.get _ (by omega)] at h0
    simp at h0
theorem HoleI.outs {H : Nat} {z : Int} {L L1 : List Rec} (hG : HoleI H z L L1) (hH : H < L.length) : M.outs L1 = if z = 0 then 1 else 0 := by
  have hl := hG.len
  have e : L1 = L1.take H ++ ([L1.getD H (0, 0, 0)] ++ L1.drop (H + 1)) := by
    rw [List.getD_eq_getElem?_getD, List.getElem?_eq_getElem (by omega)]
    simp
  have g1 : M.outs (L1.take H) = 0 := by
    unfold M.outs
    rw [List.countP_eq_zero]
    intro r hr
    obtain ⟨j, hj, rfl⟩ := List.getElem_of_mem hr
    rw [List.length_take] at hj
    have h1 := hG.get j (by omega)
    rw [if_neg (by omega), List.getD_eq_getElem?_getD, List.getElem?_eq_getElem (by omega)] at h1
    rw [List.getElem_take]
    simp only [Option.getD_some] at h1
    rw [h1]
    simp
  have g2 : M.outs (L1.drop (H + 1)) = 0 := by
    unfold M.outs
    rw [List.countP_eq_zero]
    intro r hr
    obtain ⟨j, hj, rfl⟩ := List.getElem_of_mem hr
    rw [List.length_drop] at hj
    have h1 := hG.get (H + 1 + j) (by omega)
    rw [if_neg (by omega), List.getD_eq_getElem?_getD, List.getElem?_eq_getElem (by omega)] at h1
    rw [List.getElem_drop]
    simp only [Option.getD_some] at h1
    rw [h1]
    simp
  rw [e]
  unfold M.outs at g1 g2 ⊢
  rw [List.countP_append, List.countP_append, g1, g2, List.countP_singleton, hG.get H hH]
  simp
theorem threeHear1 {s : Nat → Nat} {T : Int} {L : List Rec} (hI : SntI s T L) (H : Nat) (hH : H < L.length) (hL : L.length ≤ 200) (hs : ∀ j, s j < 18446744073709551616) (ack : Nat) (hack : ack < 18446744073709551616) (now : Int) (hn : T ≤ now) (hn2 : now ≤ 4611686018427387904)
    (l : List Cel) (hmf : mayF 0 l = true) (htold : ∀ i, i < L.length → M.told (spreadL l) (diffI ack (s i)) = if i = H then 3 else 0) (C g c : Nat) (v : Value) (w : World) (h : RecsAt L C g c w) (hv : C2At w v l) :
    Calls Tryz.prog 21 #[.pointer (some ⟨C, 0, none⟩), .int .u64 ack, v, .int .i64 now] w fun e w' => ∃ pG nG pL nL pX nX R L2, e = .returned (.agg #[.slice pG (L.length - 1) nG, .slice pL 0 nL, .slice pX (if 3 ≤ L.length - 1 - H then 1 else 0) nX, .int .i64 0, .int .i64 R]) ∧ RecsAt L2 C g c w' ∧ Kept [g] w w' ∧ HoleI H (if 3 ≤ L.length - 1 - H then 2 else 0) L L2 := by
  obtain ⟨f1, f2, f3, f5⟩ := hear_hole (fun r => M.told (spreadL l) (diffI ack r.1)) now L H hH hI.out (fun i hi => by
    show M.told (spreadL l) (diffI ack (L.getD i (0, 0, 0)).1) = _
    rw [hI.num i hi]; exact htold i hi)
  obtain ⟨z1, z2⟩ := lose_hole f5 hH
  refine (sentHear_any L hL (by omega) ack hack now hn2 (fun r hr => ?_) (fun r hr => ?_) l hmf _ rfl _ rfl (by rw [z1]; split <;> omega) C g c v w h hv).mono ?_
  · obtain ⟨j, hj, rfl⟩ := mem_getD L r hr
    have := hI.time j hj
    exact ⟨this.1, by omega, .inl (hI.out j hj)⟩
  · obtain ⟨j, hj, rfl⟩ := mem_getD L r hr
    rw [hI.num j hj]
    exact hs j
  · rintro e w' ⟨vG, vL, vX, rfl, ⟨pG, nG, e1⟩, ⟨pL, nL, e2⟩, ⟨pX, nX, e3⟩, h4, h5⟩
    refine ⟨pG, nG, pL, nL, pX, nX, (HrS.upto (fun r => M.told (spreadL l) (diffI ack r.1)) now L L.length).rtt, _, ?_, h4, h5, z2⟩
    rw [e1, e2, e3, f1, f2, f3, z1]
    rfl
theorem threeHear2 {s : Nat → Nat} {T : Int} {L L2 : List Rec} (hI : SntI s T L) (H : Nat) (z : Int) (hz : z = 0 ∨ z = 2) (hG : HoleI H z L L2) (hH : H < L.length) (hL : L.length ≤ 200) (hs : ∀ j, s j < 18446744073709551616) (ack : Nat) (hack : ack < 18446744073709551616) (now : Int) (hn : T ≤ now) (hn2 : now ≤ 4611686018427387904)
    (l : List Cel) (hmf : mayF 0 l = true) (htold : ∀ i, i < L.length → M.told (spreadL l) (diffI ack (s i)) = if i = H then 1 else 0) (C g c : Nat) (v : Value) (w : World) (h : RecsAt L2 C g c w) (hv : C2At w v l) :
    Calls Tryz.prog 21 #[.pointer (some ⟨C, 0, none⟩), .int .u64 ack, v, .int .i64 now] w fun e w' => ∃ pG nG pL nL pX nX L3, e = .returned (.agg #[.slice pG (if z = 0 then 1 else 0) nG, .slice pL (if z = 0 then 0 else 1) nL, .slice pX 0 nX, .int .i64 1, .int .i64 (if z = 0 then now - (L.getD H (0, 0, 0)).2.1 else -1)]) ∧ RecsAt L3 C g c w' ∧ Kept [g] w w' ∧ HoleI H 1 L L3 := by
  have hl := hG.len
  obtain ⟨f1, f2, f3, f4, f5⟩ := hear_late (fun r => M.told (spreadL l) (diffI ack r.1)) now L L2 H z hz hG hH (fun i hi => by
    show M.told (spreadL l) (diffI ack (L2.getD i (0, 0, 0)).1) = _
    rw [hG.get i hi, hI.num i hi]; exact htold i hi)
  obtain ⟨z1, z2⟩ := lose_got f5
  refine (sentHear_any L2 (by omega) (by omega) ack hack now hn2 (fun r hr => ?_) (fun r hr => ?_) l hmf _ rfl _ rfl (by rw [z1]; exact Nat.zero_le _) C g c v w h hv).mono ?_
  · obtain ⟨j, hj, rfl⟩ := mem_getD L2 r hr
    have := hI.time j (by omega)
    rw [hG.get j (by omega)]
    refine ⟨this.1, by show (L.getD j (0, 0, 0)).2.1 ≤ now; omega, ?_⟩
    show (if j = H then z else (1 : Int)) = 0 ∨ (if j = H then z else (1 : Int)) = 1 ∨ (if j = H then z else (1 : Int)) = 2
    split
    · rcases hz with h | h
      · exact .inl h
      · exact .inr (.inr h)
    · exact .inr (.inl rfl)
  · obtain ⟨j, hj, rfl⟩ := mem_getD L2 r hr
    rw [hG.get j (by omega)]
    show (L.getD j (0, 0, 0)).1 < _
    rw [hI.num j (by omega)]
    exact hs j
  · rintro e w' ⟨vG, vL, vX, rfl, ⟨pG, nG, e1⟩, ⟨pL, nL, e2⟩, ⟨pX, nX, e3⟩, h4, h5⟩
    rw [z2] at h4
    refine ⟨pG, nG, pL, nL, pX, nX, _, ?_, h4, h5, f5⟩
    rw [e1, e2, e3, f1, f2, f3, f4, z1]
    rfl
theorem threeHear3 {s : Nat → Nat} {T : Int} {L L3 : List Rec} (hI : SntI s T L) (H : Nat) (hG : HoleI H 1 L L3) (hH : H < L.length) (hL : L.length ≤ 200) (hs : ∀ j, s j < 18446744073709551616) (ack : Nat) (hack : ack < 18446744073709551616) (now : Int) (hn : T ≤ now) (hn2 : now ≤ 4611686018427387904)
    (l : List Cel) (hmf : mayF 0 l = true) (C g c : Nat) (v : Value) (w : World) (h : RecsAt L3 C g c w) (hv : C2At w v l) :
    Calls Tryz.prog 21 #[.pointer (some ⟨C, 0, none⟩), .int .u64 ack, v, .int .i64 now] w fun e w' => ∃ pG nG pL nL pX nX, e = .returned (.agg #[.slice pG 0 nG, .slice pL 0 nL, .slice pX 0 nX, .int .i64 0, .int .i64 (-1)]) ∧ RecsAt L3 C g c w' ∧ Kept [g] w w' := by
  have hl := hG.len
  have hst : ∀ i, i < L.length → L3.getD i (0, 0, 0) = ((L.getD i (0, 0, 0)).1, (L.getD i (0, 0, 0)).2.1, 1) := fun i hi => by
    rw [hG.get i hi]; simp
  exact hearNone (by omega) (by omega) (fun i hi => by
    rw [hst i (by omega)]
    show (L.getD i (0, 0, 0)).1 < _
    rw [hI.num i (by omega)]; exact hs i) ack hack now hn2 (fun i hi => by
    rw [hst i (by omega)]
    have := hI.time i (by omega)
    exact ⟨this.1, by show (L.getD i (0, 0, 0)).2.1 ≤ now; omega, .inr (.inl rfl)⟩) l hmf (fun i hi => by rw [hst i (by omega)]; exact .inr rfl) (lose_got hG) C g c v w h hv
/-- The cells, the newest first: the one at H is told as st, the others are got. -/
def clS (N H : Nat) (st : Int) (k : Nat) : List Cel := (List.range k).map fun j => (if N - 1 - j = H then st else 0, 1)
theorem clS_len (N H : Nat) (st : Int) (k : Nat) : (clS N H st k).length = k := by unfold clS; simp
theorem clS_succ (N H : Nat) (st : Int) (k : Nat) : clS N H st (k + 1) = clS N H st k ++ [(if N - 1 - k = H then st else 0, 1)] := by unfold clS; rw [List.range_succ, List.map_append]; rfl
theorem clS_get (N H : Nat) (st : Int) (k j : Nat) (hj : j < k) : (clS N H st k).getD j (0, 0) = (if N - 1 - j = H then st else 0, 1) := by
  unfold clS
  rw [List.getD_eq_getElem?_getD, List.getElem?_map, List.getElem?_range hj]
  rfl
theorem spread_ones : ∀ l : List Cel, (∀ c ∈ l, c.2 = 1) → spreadL l = l.map (·.1) := by
  intro l
  induction l with
  | nil => intro _; rfl
  | cons c l ih =>
    intro h
    have h1 := h c (List.mem_cons_self ..)
    have e : spreadL (c :: l) = List.replicate c.2.toNat c.1 ++ spreadL l := rfl
    rw [e, ih (fun x hx => h x (List.mem_cons_of_mem _ hx)), h1]
    rfl
theorem clS_one (N H : Nat) (st : Int) (k : Nat) : ∀ c ∈ clS N H st k, c.2 = 1 := by
  intro c hc
  unfold clS at hc
  obtain ⟨j, _, rfl⟩ := List.mem_map.1 hc
  rfl
theorem clS_may (N H : Nat) (st : Int) (hst : st = 1 ∨ st = 3) (k : Nat) (hk : k ≤ 100) : mayF 0 (clS N H st k) = true := by
  refine mayF_of _ 0 (fun c hc => ?_) ?_
  · unfold clS at hc
    obtain ⟨j, _, rfl⟩ := List.mem_map.1 hc
    split
    · rcases hst with rfl | rfl <;> decide
    · decide
  · rw [spread_ones _ (clS_one N H st k), List.length_map, clS_len]; omega
theorem clS_told (first N H : Nat) (st : Int) (i : Nat) (hN : N ≤ 100) (hi : i < N) : M.told (spreadL (clS N H st N)) (diffI (nS first (N - 1)) (nS first i)) = if i = H then st else 0 := by
  have hd : diffI (nS first (N - 1)) (nS first i) = ((N - 1 - i : Nat) : Int) := by unfold diffI nS; omega
  rw [hd, spread_ones _ (clS_one N H st N)]
  unfold M.told
  rw [if_neg (by omega)]
  have h1 := clS_get N H st N (N - 1 - i) (by omega)
  rw [List.getD_eq_getElem?_getD, List.getElem?_eq_getElem (by rw [clS_len]; omega)] at h1
  have h2 : N - 1 - i < (clS N H st N).length := by rw [clS_len]; omega
  rw [List.getD_eq_getElem?_getD, List.getElem?_map, show ((N - 1 - i : Nat) : Int).toNat = N - 1 - i from Int.toNat_natCast _, List.getElem?_eq_getElem h2]
  show ((clS N H st N)[N - 1 - i]'h2).1 = _
  simp only [Option.getD_some] at h1
  rw [h1]
  show (if N - 1 - (N - 1 - i) = H then st else 0) = _
  rw [show N - 1 - (N - 1 - i) = i by omega]
end Go.Proofs.YtkpginmdnlhfbaaGreatDoor

namespace Go.Proofs.YtkpginmdnlhfbaaGreatDoor
open Go.ChangeShapes Go.WideShapes Go.ChangeAt Go.RowKit
set_option linter.unusedVariables false
set_option linter.unusedSimpArgs false

theorem wp_region_quietC {P : Program} {id : Nat} {Q : Exit → Act → World → Prop} {a : Act} {w : World} {l : List Oper} (C : World → Prop) (hm : P.follows .mixedOrders = true) (hB : Region.lexB .any l.toArray = true) (hC : C w.drew)
    (h : wpQuiet P l.toArray C (fun a' => ∀ w', C w' → Q .normal a' w') l a) : (Code.region id l.toArray true).wp P Q a w := wp_region_quiet (C := C) hm hB hC (by simpa using h)
theorem c2_kept {W W' : World} {S : List Nat} {b n c : Nat} {l : List Cel} (h : C2At W (.slice (some ⟨b, 0, none⟩) n c) l) (k : Kept S W W') (hlt : b < W.heap.size) (hb : b ∉ S) : C2At W' (.slice (some ⟨b, 0, none⟩) n c) l := by
  obtain ⟨p, cap, e, h1, h2, h3⟩ := h.at_
  refine ⟨⟨p, cap, e, h1, h2, fun i hi => ?_⟩, h.len, h.small⟩
  obtain ⟨b', o', q1, q2, q3, q4⟩ := h3 i hi
  injection e with e1 e2 e3
  rw [← e1] at q1
  injection q1 with q1
  injection q1 with q5 q6
  subst q5 q6
  exact ⟨b, 0, e1.symm, Nat.lt_of_lt_of_le hlt k.size, (k.cell (p := ⟨b, 0 + i * 2, none⟩) hlt hb).trans q3, (k.cell (p := ⟨b, 0 + i * 2 + 1, none⟩) hlt hb).trans q4⟩
/-- A box, the records. -/
structure BxS (cs : Array Value) (X : Nat) (L : List Rec) (C g c : Nat) (w0 W : World) : Prop where
  blk : BlkIs cs 41 X W
  recs : RecsAt L C g c W
  below : Below w0.heap.size w0 W
theorem BxS.more {cs : Array Value} {X : Nat} {L : List Rec} {C g c : Nat} {w0 W W' : World} (h : BxS cs X L C g c w0 W) (hb : Below W.heap.size W W') : BxS cs X L C g c w0 W' := ⟨h.blk.below hb, h.recs.below hb, bel_trans h.below hb⟩
theorem BxS.drew {cs : Array Value} {X : Nat} {L : List Rec} {C g c : Nat} {w0 W : World} (h : BxS cs X L C g c w0 W) : BxS cs X L C g c w0 W.drew := h.more (bel_drewN W 1)
theorem BxS.s {v0 v1 v2 v3 v4 : Value} {X : Nat} {L : List Rec} {C g c : Nat} {w0 W : World} (h : BxS #[v0, v1, v2, v3, v4] X L C g c w0 W) : BxS #[v0, v1, v2, v3, v4] X L C g c w0 W ∧ W.cell? ⟨X, 0, none⟩ = some v0 ∧ W.cell? ⟨X, 1, none⟩ = some v1 ∧ W.cell? ⟨X, 2, none⟩ = some v2 := ⟨h, h.blk.cell 0, h.blk.cell 1, h.blk.cell 2⟩
/-- Three boxes, the records. -/
structure Bx3 (ca cb cc : Array Value) (X Y Z : Nat) (L : List Rec) (C g c : Nat) (w0 W : World) : Prop where
  ka : BlkIs ca 41 X W
  kb : BlkIs cb 41 Y W
  kc : BlkIs cc 41 Z W
  recs : RecsAt L C g c W
  below : Below w0.heap.size w0 W
theorem Bx3.more {ca cb cc : Array Value} {X Y Z : Nat} {L : List Rec} {C g c : Nat} {w0 W W' : World} (h : Bx3 ca cb cc X Y Z L C g c w0 W) (hb : Below W.heap.size W W') : Bx3 ca cb cc X Y Z L C g c w0 W' := ⟨h.ka.below hb, h.kb.below hb, h.kc.below hb, h.recs.below hb, bel_trans h.below hb⟩
theorem Bx3.drew {ca cb cc : Array Value} {X Y Z : Nat} {L : List Rec} {C g c : Nat} {w0 W : World} (h : Bx3 ca cb cc X Y Z L C g c w0 W) : Bx3 ca cb cc X Y Z L C g c w0 W.drew := h.more (bel_drewN W 1)
theorem Bx3.s {a0 a1 a2 a3 a4 b0 b1 b2 b3 b4 c0 c1 c2 c3 c4 : Value} {X Y Z : Nat} {L : List Rec} {C g c : Nat} {w0 W : World} (h : Bx3 #[a0, a1, a2, a3, a4] #[b0, b1, b2, b3, b4] #[c0, c1, c2, c3, c4] X Y Z L C g c w0 W) :
    Bx3 #[a0, a1, a2, a3, a4] #[b0, b1, b2, b3, b4] #[c0, c1, c2, c3, c4] X Y Z L C g c w0 W ∧ W.cell? ⟨X, 2, none⟩ = some a2 ∧ W.cell? ⟨Y, 0, none⟩ = some b0 ∧ W.cell? ⟨Y, 1, none⟩ = some b1 ∧ W.cell? ⟨Y, 3, none⟩ = some b3 ∧ W.cell? ⟨Y, 4, none⟩ = some b4 ∧ W.cell? ⟨Z, 0, none⟩ = some c0 ∧ W.cell? ⟨Z, 1, none⟩ = some c1 ∧ W.cell? ⟨Z, 2, none⟩ = some c2 ∧ W.cell? ⟨Z, 3, none⟩ = some c3 :=
  ⟨h, h.ka.cell 2, h.kb.cell 0, h.kb.cell 1, h.kb.cell 3, h.kb.cell 4, h.kc.cell 0, h.kc.cell 1, h.kc.cell 2, h.kc.cell 3⟩
set_option maxHeartbeats 8000000 in
set_option maxRecDepth 100000 in
theorem sentThree_walk (first : Nat) (hfi : first < 18446744073709551616) (nn hh : Int) (n1 : -9223372036854775808 ≤ nn) (n2 : nn ≤ 9223372036854775807) (m1 : -9223372036854775808 ≤ hh) (m2 : hh ≤ 9223372036854775807) (w : World) (hT : TabW w) :
    Calls Tryz.prog 4 #[.int .i64 nn, .int .i64 hh, .int .u64 first] w fun e w' => e = .returned (.bool true) ∧ Below w.heap.size w w' := by
  have HBG : Hid (Calls Tryz.prog 13 #[] w fun e w' => e = .returned (.bool true) ∧ Below w.heap.size w w') := Lib.hid (begun8_any w hT)
  clear hT
  obtain ⟨a, ha, a1, a2, J, hJ, hJ3⟩ := mod_at nn 30 (by decide)
  obtain ⟨N, hN⟩ : ∃ N : Nat, 5 + (J : Int) = (N : Int) := ⟨5 + J, by omega⟩
  have hN1 : 5 ≤ N := by omega
  have hN2 : N < 35 := by omega
  have hN0 : ¬ N = 0 := by omega
  obtain ⟨b, hb, _, _, H, hH, hH3⟩ := mod_at hh (N : Int) (by omega)
  have hHN : H < N := by omega
  obtain ⟨B, hB⟩ : ∃ B, w.heap.size = B := ⟨_, rfl⟩
  have HBe := Lib.hid hB
  have HST : Hid (∀ i : Nat, i ≤ 100 → ∀ W, Calls Tryz.prog 16 #[.int .u64 first, .int .i64 i] W fun e w' => e = .returned (.int .u64 (nS first i : Int)) ∧ W = w') := Lib.hid (fun i hi W => by rw [← nS_step]; exact refStep_any first i hfi (by omega) (by omega) W)
  have HSTN : Hid (∀ W, Calls Tryz.prog 16 #[.int .u64 first, .int .i64 ((N : Int) - 1)] W fun e w' => e = .returned (.int .u64 (nS first (N - 1) : Int)) ∧ W = w') := Lib.hid (fun W => by
    have h1 := HST.out (N - 1) (by omega) W
    rw [show ((N - 1 : Nat) : Int) = (N : Int) - 1 by omega] at h1
    exact h1)
  go_enter Tryz.func4, Tryz.ntmps4
  go_upto_region 7 with (first
    | (go_at_call 13; (with_reducible refine HBG.out.mono ?_); rintro e w0 ⟨rfl, hb0⟩)
    | (go_at_call 19; (with_reducible refine (sentNew_any _).mono ?_); rintro e w1 ⟨C, rfl, hg1, hc1, hb1⟩))
  have HI0 : Hid (SntW (nS first) 0 [] C B (.slice none 0 0) w w1) := Lib.hid (SntW.start _ C B w w1 hg1 (by rw [← hB]; exact bel_trans hb0 hb1) ⟨by rw [← hB]; exact Nat.le_trans hb0.size hc1, hB⟩)
  clear hb0 hg1 hc1 hb1 ha hJ hN hb hH hB
  go_wp2
  go_loopw [9] (fun iv wr => ∃ (i : Nat) (T : Int) (L : List Rec) (v : Value), iv = .int .i64 (i : Int) ∧ i ≤ N ∧ T ≤ i ∧ Hid (L.length = i) ∧ Hid (SntW (nS first) T L C B v w wr)) (fun iv _ => N - (intOf iv).toNat)
  case atStart => exact ⟨0, 0, [], _, rfl, Nat.zero_le _, Int.le_refl _, Lib.hid rfl, HI0⟩
  case round =>
    clear HI0
    obtain ⟨i, T, L, v, rfl, hi, hT, hL, hI⟩ := hrel
    by_cases hlt : i < N
    · have d1 : decide ((i : Int) < (N : Int)) = true := decide_eq_true (by omega)
      have HSI := Lib.hid (HST.out i (by omega))
      have HP : Hid (Calls Tryz.prog 20 #[.pointer (some ⟨C, 0, none⟩), .int .u64 (nS first i), .int .i64 (i : Int)] wr fun e w' => e = .returned (.bool true) ∧ ∃ v', SntW (nS first) (i : Int) (L ++ [(nS first L.length, (i : Int), 0)]) C B v' w w' ∧ (∃ g c, v' = .slice (some ⟨g, 0, none⟩) (L.length + 1) c) ∧ Kept (C :: own v) wr w') := Lib.hid (by
        have h1 := hI.out.put (T2 := (i : Int)) (nS_lt first) (nS_next first) (by rw [hL.out]; omega) hT (by omega) (by omega)
        rw [hL.out] at h1 ⊢
        exact h1)
      go_wp2_with (first
        | (go_at_call 16; (with_reducible refine (HSI.out _).mono ?_); rintro e w2 ⟨rfl, rfl⟩)
        | (go_at_call 20; (with_reducible refine HP.out.mono ?_); rintro e w3 ⟨rfl, v3, hI3, _, _⟩))
      refine ⟨⟨i + 1, (i : Int), _, v3, by go_num, by omega, by omega, Lib.hid (by rw [List.length_append, hL.out]; rfl), Lib.hid hI3⟩, ?_⟩
      simp [intOf]; omega
    · have d1 : decide ((i : Int) < (N : Int)) = false := decide_eq_false (by omega)
      obtain rfl : i = N := by omega
      obtain ⟨g, c, hr, hgB⟩ := sntRecs hI.out (by rw [hL.out]; omega)
      have HR := Lib.hid hr
      have HIN := Lib.hid hI.out.inv
      have HBW := Lib.hid hI.out.below
      have HCB : Hid (B ≤ C ∧ B ≤ g ∧ g < wr.heap.size) := Lib.hid ⟨hI.out.size.1, hgB, hr.lt⟩
      clear hr hgB hI HST
      obtain ⟨wR, rfl⟩ : ∃ wR : World, wR = wr := ⟨_, rfl⟩
      go_wp2
      go_loopw [10, 11] (fun cv iv wr => ∃ k : Nat, iv = .int .i64 ((i : Int) - 1 - (k : Int)) ∧ k ≤ i ∧ Hid (CelOwn wR.heap.size cv (clS i H 3 k) wR wr)) (fun _ iv _ => (intOf iv + 1).toNat)
      case atStart => exact ⟨0, by simp, Nat.zero_le _, Lib.hid (CelOwn.nil wR)⟩
      case round =>
        obtain ⟨k, rfl, hk, ho⟩ := hrel
        by_cases hki : k < i
        · obtain ⟨m, hm⟩ : ∃ m : Nat, (i : Int) - 1 - (k : Int) = (m : Int) := ⟨i - 1 - k, by omega⟩
          rw [hm]
          have hmn : i - 1 - k = m := by omega
          have HSC := Lib.hid (clS_succ i H 3 k)
          rw [hmn] at HSC
          have HLL : Hid ((clS i H 3 k).length ≤ 1073741824) := Lib.hid (by rw [clS_len]; omega)
          have hw9 : IntKind.i64.wrap ((m : Int) - 1) = (m : Int) - 1 := by rw [IntKind.wrap_i64]; omega
          have hnx : (m : Int) - 1 = (i : Int) - 1 - ((k + 1 : Nat) : Int) := by omega
          have HNX := Lib.hid hnx
          clear hmn hm hnx
          by_cases hmH : m = H
          · have e1 : ((m : Int) == (H : Int)) = true := by rw [beq_iff_eq]; omega
            rw [if_pos hmH] at HSC
            clear hmH
            go_upto_region 15 with (at_builtin; refine wp_cel rfl _ _ rfl wR.heap.size u10 (clS i H 3 k) rfl wR wr _ (3, 1) rfl ho.out wr.heap.size rfl rfl HLL.out ?_; intro v9 w9 ho9)
            rw [← HSC.out] at ho9
            have HO9 := Lib.hid ho9
            clear ho9 ho
            go_wp2
            refine ⟨⟨k + 1, by rw [HNX.out], by omega, HO9⟩, ?_⟩
            simp [intOf]
          · have e1 : ((m : Int) == (H : Int)) = false := by rw [beq_eq_false_iff_ne]; omega
            rw [if_neg hmH] at HSC
            clear hmH
            go_upto_region 15 with (at_builtin; refine wp_cel rfl _ _ rfl wR.heap.size u10 (clS i H 3 k) rfl wR wr _ (0, 1) rfl ho.out wr.heap.size rfl rfl HLL.out ?_; intro v9 w9 ho9)
            rw [← HSC.out] at ho9
            have HO9 := Lib.hid ho9
            clear ho9 ho
            go_wp2
            refine ⟨⟨k + 1, by rw [HNX.out], by omega, HO9⟩, ?_⟩
            simp [intOf]
        · obtain rfl : k = i := by omega
          have hm : (k : Int) - 1 - (k : Int) = -1 := by omega
          rw [hm]
          obtain ⟨b2, c2, hu, hc1, hc2, hb2a, hb2b, hcell, hfro⟩ := ho.out.shape (by rw [clS_len]; omega)
          rw [clS_len] at hu hc1
          have hsm : ∀ i, -9223372036854775808 ≤ ((clS k H 3 k).getD i (0, 0)).2 ∧ ((clS k H 3 k).getD i (0, 0)).2 ≤ 9223372036854775807 := fun i => by
            by_cases h : i < k
            · rw [clS_get k H 3 k i h]; exact (by decide : -9223372036854775808 ≤ (1 : Int) ∧ (1 : Int) ≤ 9223372036854775807)
            · rw [List.getD_eq_getElem?_getD, List.getElem?_eq_none (by rw [clS_len]; omega)]; exact (by decide : -9223372036854775808 ≤ (0 : Int) ∧ (0 : Int) ≤ 9223372036854775807)
          have hat1 : C2At wr u10 (clS k H 3 k) := ho.out.at (by rw [clS_len]; omega) hsm
          have HRW : Hid (RecsAt L C g c wr) := Lib.hid (HR.out.below ho.out.2.1)
          have HBR : Hid (Below B w wr) := Lib.hid (HBW.out.trans (ho.out.2.1.mono (by have := HBW.out.size; have := HBe.out; omega)))
          have HROW := Lib.hid ho.out.1
          have HSZ : Hid (wR.heap.size ≤ b2 ∧ b2 < wr.heap.size ∧ g < wR.heap.size ∧ b2 ≠ g ∧ B ≤ g ∧ B ≤ wR.heap.size) := Lib.hid ⟨hb2a, hb2b, HCB.out.2.2, by have := HCB.out.2.2; omega, HCB.out.2.1, by have := HBW.out.size; have := HBe.out; omega⟩
          subst hu
          have HAT1 := Lib.hid hat1
          obtain ⟨P, hP⟩ : ∃ P, k - 1 = P := ⟨_, rfl⟩
          have hPi : (k : Int) - 1 = (P : Int) := by omega
          obtain ⟨Q, hQ⟩ : ∃ Q, P - H = Q := ⟨_, rfl⟩
          have hQi : (P : Int) - (H : Int) = (Q : Int) := by omega
          rw [hPi, hP] at HSTN
          clear ho hcell hfro hat1 hsm HR HBW hb2a hb2b
          have HNQ : Hid (∀ q, (Value.slice (some ⟨b2, 0, none⟩) k c2).ownBlock = some q → q ∉ [g]) := Lib.hid (fun q hq => by
            have h9 : b2 = q := by simpa [Value.ownBlock] using hq
            have := HSZ.out
            simp; omega)
          have g1 : ((P : Int) == (P : Int)) = true := by simp
          have g2 : ((P : Int) != (P : Int)) = false := by simp
          have g3 : (P : Int) - (P : Int) = 0 := by omega
          have hwP : IntKind.i64.wrap (P : Int) = (P : Int) := by rw [IntKind.wrap_i64]; omega
          obtain ⟨tH, htH⟩ : ∃ tH, (L.getD H (0, 0, 0)).2.1 = tH := ⟨_, rfl⟩
          have htime := HIN.out.time H (by rw [hL.out]; exact hHN)
          rw [htH] at htime
          obtain ⟨D, hD⟩ : ∃ D, 2000 - tH = D := ⟨_, rfl⟩
          have hD1 : 0 ≤ D ∧ D ≤ 2000 := by omega
          obtain ⟨hD2, hD3⟩ := hD1
          have hDn : (D == -1) = false := by rw [beq_eq_false_iff_ne]; omega
          have HTH := Lib.hid htH
          have HD := Lib.hid hD
          clear htH hD htime
          by_cases hlost : 3 ≤ Q
          · skip
            have HH1 : Hid (Calls Tryz.prog 21 #[.pointer (some ⟨C, 0, none⟩), .int .u64 (nS first P), .slice (some ⟨b2, 0, none⟩) k c2, .int .i64 1000] wr fun e w' => ∃ pG nG pL nL pX nX R L2, e = .returned (.agg #[.slice pG P nG, .slice pL 0 nL, .slice pX 1 nX, .int .i64 0, .int .i64 R]) ∧ RecsAt L2 C g c w' ∧ Kept [g] wr w' ∧ HoleI H 2 L L2) := Lib.hid (by
              have h1 := threeHear1 HIN.out H (by rw [hL.out]; exact hHN) (by rw [hL.out]; omega) (fun j => by have := nS_lt first j; omega) (nS first (k - 1)) (by have := nS_lt first (k - 1); omega) 1000 (by omega) (by decide) (clS k H 3 k) (clS_may k H 3 (.inr rfl) k (by omega)) (fun i hi => clS_told first k H 3 i (by omega) (by rw [hL.out] at hi; exact hi)) C g c _ wr HRW.out HAT1.out
              rw [hL.out, if_pos (show 3 ≤ k - 1 - H by omega), if_pos (show 3 ≤ k - 1 - H by omega), hP] at h1
              exact h1)
            have i1 : decide ((3 : Int) ≤ (Q : Int)) = true := decide_eq_true (by omega)
            go_upto_region 22 with (first
              | (go_at_call 16; (with_reducible refine (HSTN.out _).mono ?_); rintro e w2 ⟨rfl, rfl⟩)
              | (go_at_call 21; (with_reducible refine HH1.out.mono ?_); rintro e w3 ⟨pG, nG, pL, nL, pX, nX, R, L2, rfl, hr3, hk3, hG2⟩))
            have kb := BlkIs.new #[.slice pG P nG, .slice pL 0 nL, .slice pX 1 nX, .int .i64 0, .int .i64 R] 41 w3
            have hr4 := hr3.below (bel_alloc w3 (.cells #[.slice pG P nG, .slice pL 0 nL, .slice pX 1 nX, .int .i64 0, .int .i64 R] 41))
            have kk4 : Kept [g] wr (w3.alloc (.cells #[.slice pG P nG, .slice pL 0 nL, .slice pX 1 nX, .int .i64 0, .int .i64 R] 41)) := hk3.alloc _
            have hX4 : w3.heap.size < (w3.alloc (.cells #[.slice pG P nG, .slice pL 0 nL, .slice pX 1 nX, .int .i64 0, .int .i64 R] 41)).heap.size ∧ wr.heap.size ≤ w3.heap.size := ⟨by rw [World.size_alloc]; omega, hk3.size⟩
            clear hr3 hk3 HH1
            generalize w3.alloc (.cells #[.slice pG P nG, .slice pL 0 nL, .slice pX 1 nX, .int .i64 0, .int .i64 R] 41) = w4 at *
            generalize w3.heap.size = X1 at *
            have HS4 : Hid (BxS #[.slice pG P nG, .slice pL 0 nL, .slice pX 1 nX, .int .i64 0, .int .i64 R] X1 L2 C g c w4 w4) := Lib.hid ⟨kb, hr4, Below.refl _ _⟩
            have HOU : Hid (∀ W, RecsAt L2 C g c W → Calls Tryz.prog 22 #[.pointer (some ⟨C, 0, none⟩)] W fun e w' => e = .returned (.int .i64 0) ∧ Below W.heap.size W w') := Lib.hid (fun W hW => by
              have h1 := sentOut_any L2 (by rw [hG2.len, hL.out]; omega) C g c W hW
              rw [hG2.outs (by rw [hL.out]; exact hHN)] at h1
              exact h1)
            have HK4 := Lib.hid kk4
            have HX4 := Lib.hid hX4
            have HG2 := Lib.hid hG2
            have HO2 : Hid (∀ W, (BxS #[.slice pG P nG, .slice pL 0 nL, .slice pX 1 nX, .int .i64 0, .int .i64 R] X1 L2 C g c w4 W ∧ W.cell? ⟨X1, 0, none⟩ = some (.slice pG P nG) ∧ W.cell? ⟨X1, 1, none⟩ = some (.slice pL 0 nL) ∧ W.cell? ⟨X1, 2, none⟩ = some (.slice pX 1 nX)) → Calls Tryz.prog 22 #[.pointer (some ⟨C, 0, none⟩)] W fun e w' => e = .returned (.int .i64 0) ∧ (BxS #[.slice pG P nG, .slice pL 0 nL, .slice pX 1 nX, .int .i64 0, .int .i64 R] X1 L2 C g c w4 w' ∧ w'.cell? ⟨X1, 0, none⟩ = some (.slice pG P nG) ∧ w'.cell? ⟨X1, 1, none⟩ = some (.slice pL 0 nL) ∧ w'.cell? ⟨X1, 2, none⟩ = some (.slice pX 1 nX))) := Lib.hid (fun W hW => (HOU.out W hW.1.recs).mono fun e w' ⟨h1, h2⟩ => ⟨h1, (hW.1.more h2).s⟩)
            clear kb hr4 kk4 hX4 hG2
            go_upto_region 23 with fail
            refine wp_region_quietC (fun W => BxS #[.slice pG P nG, .slice pL 0 nL, .slice pX 1 nX, .int .i64 0, .int .i64 R] X1 L2 C g c w4 W ∧ W.cell? ⟨X1, 0, none⟩ = some (.slice pG P nG) ∧ W.cell? ⟨X1, 1, none⟩ = some (.slice pL 0 nL) ∧ W.cell? ⟨X1, 2, none⟩ = some (.slice pX 1 nX)) (by kernel_rfl) (by kernel_rfl) HS4.out.drew.s ?_
            repeat (first
              | go_big_quiet_skip
              | (go_big_quiet_want
                 apply Exists.intro
                 refine ⟨fun W hW => ?_, ?_⟩
                 · first
                   | (obtain ⟨_, k0, k1, k2⟩ := hW
                      go_simp
                      first | rfl | exact ⟨rfl, rfl⟩)
                   | (go_simp
                      exact HO2.out W hW)
                   | (go_simp
                      exact ⟨rfl, HO2.out W hW⟩)
                 go_simp
                 go_big_quiet_on))
            refine wpQuiet_nil ?_
            intro w5 hs5
            have hs := hs5.1
            have HS5 := Lib.hid hs
            clear hs5 HS4 HO2 HOU
            have hrow5 : w5.ownsRow wR.heap.size 38 2 (.slice (some ⟨b2, 0, none⟩) k c2) (clS k H 3 k).length (celList (clS k H 3 k)) := ownsRow_keptC (ownsRow_keptC HROW.out HK4.out HNQ.out) (Kept.of_below [] hs.below) (by simp)
            have hsz5 : w4.heap.size ≤ w5.heap.size := hs.below.size
            have hsz4 : wr.heap.size ≤ w4.heap.size := HK4.out.size
            have hsz3 := HSZ.out
            have hown5 : CelOwn wR.heap.size (.slice (some ⟨b2, 0, none⟩) k c2) (clS k H 3 k) w5 w5 := ⟨hrow5, Below.refl _ _, by omega⟩
            obtain ⟨b3, c3, hu3, _, _, _, hlt5, hcell5, hfro5⟩ := hown5.shape (by rw [clS_len]; omega)
            have hb3 : b3 = b2 := by
              injection hu3 with h9 _ _
              injection h9 with h9
              injection h9 with h9
              exact h9.symm
            clear hu3
            rw [hb3] at hlt5 hcell5 hfro5
            clear hb3
            have e5 := (hcell5 Q (by rw [clS_len]; omega)).1
            obtain ⟨z5, hz5⟩ : ∃ z5, ((clS k H 3 k).getD Q (0, 0)).1 = z5 := ⟨_, rfl⟩
            rw [hz5] at e5
            clear hz5
            have f5 := hfro5 (Q * 2)
            have hQk : Q < k := by omega
            have hQc : Q ≤ c2 := by omega
            have hat6 : C2At (w5.setCell ⟨b2, Q * 2, none⟩ (.int .i64 1)) (.slice (some ⟨b2, 0, none⟩) k c2) (clS k H 1 k) := by
              refine ⟨⟨some ⟨b2, 0, none⟩, c2, by rw [clS_len], by rw [clS_len]; exact hc1, hc2, fun i hi => ⟨b2, 0, rfl, by simpa using hlt5, ?_, ?_⟩⟩, by rw [clS_len]; omega, fun i => ?_⟩
              · rw [clS_len] at hi
                have h1 := (hcell5 i (by rw [clS_len]; exact hi)).1
                rw [clS_get k H 3 k i hi] at h1
                rw [clS_get k H 1 k i hi, Nat.zero_add]
                by_cases hiQ : i = Q
                · subst hiQ
                  rw [if_pos (show k - 1 - i = H by omega)]
                  exact World.cell?_setCell_same _ _ _ h1
                · rw [if_neg (show ¬ k - 1 - i = H by omega)] at h1 ⊢
                  exact (World.cell?_setCell_other _ _ _ _ (fun h2 => by have := congrArg Addr.off h2; simp at this; omega)).trans h1
              · rw [clS_len] at hi
                have h1 := (hcell5 i (by rw [clS_len]; exact hi)).2
                rw [clS_get k H 3 k i hi] at h1
                rw [clS_get k H 1 k i hi, Nat.zero_add]
                exact (World.cell?_setCell_other _ _ _ _ (fun h2 => by have := congrArg Addr.off h2; simp at this; omega)).trans h1
              · by_cases h : i < k
                · rw [clS_get k H 1 k i h]; exact (by decide : -9223372036854775808 ≤ (1 : Int) ∧ (1 : Int) ≤ 9223372036854775807)
                · rw [List.getD_eq_getElem?_getD, List.getElem?_eq_none (by rw [clS_len]; omega)]; exact (by decide : -9223372036854775808 ≤ (0 : Int) ∧ (0 : Int) ≤ 9223372036854775807)
            have kS : Kept [b2] w5 (w5.setCell ⟨b2, Q * 2, none⟩ (.int .i64 1)) := (Kept.refl _ _).setCell (.inl (by simp)) _
            have hCB := HCB.out
            have hr6 : RecsAt L2 C g c (w5.setCell ⟨b2, Q * 2, none⟩ (.int .i64 1)) := hs.recs.kept kS (by
              intro hm
              have h9 := hs.recs.blk
              have h8 := own_blk hrow5 h9 (by decide)
              simp at hm
              subst hm
              exact h8 rfl) (by simp; omega)
            have hX4 := HX4.out
            have hb6 := hs.blk.far (show X1 ≠ (⟨b2, Q * 2, none⟩ : Addr).block by show X1 ≠ b2; omega) (.int .i64 1)
            have hB6 : Below B w (w5.setCell ⟨b2, Q * 2, none⟩ (.int .i64 1)) := ((HBR.out.trans (HK4.out.below (by have := HBR.out.size; have := HBe.out; omega) (by intro x hx; simp at hx; omega))).trans (hs.below.mono (by omega))).setCell (p := ⟨b2, Q * 2, none⟩) (by show B ≤ b2; omega) _
            have HH2 : Hid (Calls Tryz.prog 21 #[.pointer (some ⟨C, 0, none⟩), .int .u64 (nS first P), .slice (some ⟨b2, 0, none⟩) k c2, .int .i64 2000] (w5.setCell ⟨b2, Q * 2, none⟩ (.int .i64 1)) fun e w' => ∃ qG oG qL oL qX oX L3, e = .returned (.agg #[.slice qG 0 oG, .slice qL 1 oL, .slice qX 0 oX, .int .i64 1, .int .i64 (-1)]) ∧ RecsAt L3 C g c w' ∧ Kept [g] (w5.setCell ⟨b2, Q * 2, none⟩ (.int .i64 1)) w' ∧ HoleI H 1 L L3) := Lib.hid (by
              have h1 := threeHear2 HIN.out H 2 (.inr rfl) HG2.out (by rw [hL.out]; exact hHN) (by rw [hL.out]; omega) (fun j => by have := nS_lt first j; omega) (nS first (k - 1)) (by have := nS_lt first (k - 1); omega) 2000 (by omega) (by decide) (clS k H 1 k) (clS_may k H 1 (.inl rfl) k (by omega)) (fun i hi => clS_told first k H 1 i (by omega) (by rw [hL.out] at hi; exact hi)) C g c _ _ hr6 hat6
              rw [if_neg (show ¬ (2 : Int) = 0 by decide), if_neg (show ¬ (2 : Int) = 0 by decide), if_neg (show ¬ (2 : Int) = 0 by decide)] at h1
              rw [hP] at h1
              exact h1)
            have HAT6 := Lib.hid hat6
            have HB6 := Lib.hid hB6
            have HBX := Lib.hid hb6
            have HGB6 : Hid (g < (w5.setCell ⟨b2, Q * 2, none⟩ (.int .i64 1)).heap.size ∧ b2 < (w5.setCell ⟨b2, Q * 2, none⟩ (.int .i64 1)).heap.size) := Lib.hid ⟨hr6.lt, by simpa using hlt5⟩
            clear hat6 kS hr6 hb6 hB6 hown5 hrow5 hcell5 hfro5 hs hX4 hCB hsz3 hsz4 hsz5
            go_upto_region 26 with fail
            clear e5 f5
            generalize w5.setCell ⟨b2, Q * 2, none⟩ (.int .i64 1) = w6 at *
            go_upto_region 27 with (go_at_call 21; (with_reducible refine HH2.out.mono ?_); rintro e w7 ⟨qG, oG, qL, oL, qX, oX, L3, rfl, hr7, hk7, hG3⟩)
            have kc := BlkIs.new #[.slice qG 0 oG, .slice qL 1 oL, .slice qX 0 oX, .int .i64 1, .int .i64 (-1)] 41 w7
            have kk8 : Kept [g] w6 (w7.alloc (.cells #[.slice qG 0 oG, .slice qL 1 oL, .slice qX 0 oX, .int .i64 1, .int .i64 (-1)] 41)) := hk7.alloc _
            have hr8 := hr7.below (bel_alloc w7 (.cells #[.slice qG 0 oG, .slice qL 1 oL, .slice qX 0 oX, .int .i64 1, .int .i64 (-1)] 41))
            have hX2 : g < w7.heap.size := hr7.lt
            clear hr7 hk7 HH2
            generalize w7.alloc (.cells #[.slice qG 0 oG, .slice qL 1 oL, .slice qX 0 oX, .int .i64 1, .int .i64 (-1)] 41) = w8 at *
            generalize w7.heap.size = X2 at *
            have hat8 := c2_kept HAT6.out kk8 HGB6.out.2 (by have := HSZ.out; simp; omega)
            have HX2 := Lib.hid hX2
            have HKC := Lib.hid kc
            have HK8 := Lib.hid kk8
            have HG3 := Lib.hid hG3
            have HH3 : Hid (Calls Tryz.prog 21 #[.pointer (some ⟨C, 0, none⟩), .int .u64 (nS first P), .slice (some ⟨b2, 0, none⟩) k c2, .int .i64 3000] w8 fun e w' => ∃ sG aG sL aL sX aX, e = .returned (.agg #[.slice sG 0 aG, .slice sL 0 aL, .slice sX 0 aX, .int .i64 0, .int .i64 (-1)]) ∧ RecsAt L3 C g c w' ∧ Kept [g] w8 w') := Lib.hid (by
              have h1 := threeHear3 HIN.out H hG3 (by rw [hL.out]; exact hHN) (by rw [hL.out]; omega) (fun j => by have := nS_lt first j; omega) (nS first (k - 1)) (by have := nS_lt first (k - 1); omega) 3000 (by omega) (by decide) (clS k H 1 k) (clS_may k H 1 (.inl rfl) k (by omega)) C g c _ _ hr8 hat8
              rw [hP] at h1
              exact h1)
            clear kc kk8 hr8 hX2 hat8 hG3
            go_upto_region 28 with (go_at_call 21; (with_reducible refine HH3.out.mono ?_); rintro e w9 ⟨sG, aG, sL, aL, sX, aX, rfl, hr9, hk9⟩)
            have kd := BlkIs.new #[.slice sG 0 aG, .slice sL 0 aL, .slice sX 0 aX, .int .i64 0, .int .i64 (-1)] 41 w9
            have kk10 : Kept [g] w8 (w9.alloc (.cells #[.slice sG 0 aG, .slice sL 0 aL, .slice sX 0 aX, .int .i64 0, .int .i64 (-1)] 41)) := hk9.alloc _
            have hr10 := hr9.below (bel_alloc w9 (.cells #[.slice sG 0 aG, .slice sL 0 aL, .slice sX 0 aX, .int .i64 0, .int .i64 (-1)] 41))
            clear hr9 hk9 HH3
            generalize w9.alloc (.cells #[.slice sG 0 aG, .slice sL 0 aL, .slice sX 0 aX, .int .i64 0, .int .i64 (-1)] 41) = w10 at *
            generalize w9.heap.size = X3 at *
            have hX4 := HX4.out
            have hsz3 := HSZ.out
            have HS10 : Hid (Bx3 #[.slice pG P nG, .slice pL 0 nL, .slice pX 1 nX, .int .i64 0, .int .i64 R] #[.slice qG 0 oG, .slice qL 1 oL, .slice qX 0 oX, .int .i64 1, .int .i64 (-1)] #[.slice sG 0 aG, .slice sL 0 aL, .slice sX 0 aX, .int .i64 0, .int .i64 (-1)] X1 X2 X3 L3 C g c w10 w10) := Lib.hid ⟨(HBX.out.kept HK8.out (by simp; omega)).kept kk10 (by simp; omega), HKC.out.kept kk10 (by have := HX2.out; simp; omega), kd, hr10, Below.refl _ _⟩
            have HB10 : Hid (Below B w w10) := Lib.hid ((HB6.out.trans (HK8.out.below (by have := HB6.out.size; have := HBe.out; omega) (by intro x hx; simp at hx; omega))).trans (kk10.below (by have := HB6.out.size; have := HK8.out.size; have := HBe.out; omega) (by intro x hx; simp at hx; omega)))
            have HOU : Hid (∀ W, RecsAt L3 C g c W → Calls Tryz.prog 22 #[.pointer (some ⟨C, 0, none⟩)] W fun e w' => e = .returned (.int .i64 0) ∧ Below W.heap.size W w') := Lib.hid (fun W hW => by
              have h1 := sentOut_any L3 (by rw [HG3.out.len, hL.out]; omega) C g c W hW
              rw [HG3.out.outs (by rw [hL.out]; exact hHN)] at h1
              exact h1)
            clear kd kk10 hr10 hX4 hsz3 HBX HKC HK8
            obtain ⟨_, k0, k1, k2, k3, k4, k5, k6, k7, k8⟩ := HS10.out.s
            have HO11 := Lib.hid (HOU.out w10 HS10.out.recs)
            clear HS10 HOU
            go_wp2_with (go_at_call 22; (with_reducible refine HO11.out.mono ?_); rintro e w11 ⟨rfl, hs⟩)
            go_ret
            have hbe := HBe.out
            subst hbe
            exact ⟨by first | rfl | simp, bel_trans HB10.out hs⟩
          · skip
            have HH1 : Hid (Calls Tryz.prog 21 #[.pointer (some ⟨C, 0, none⟩), .int .u64 (nS first P), .slice (some ⟨b2, 0, none⟩) k c2, .int .i64 1000] wr fun e w' => ∃ pG nG pL nL pX nX R L2, e = .returned (.agg #[.slice pG P nG, .slice pL 0 nL, .slice pX 0 nX, .int .i64 0, .int .i64 R]) ∧ RecsAt L2 C g c w' ∧ Kept [g] wr w' ∧ HoleI H 0 L L2) := Lib.hid (by
              have h1 := threeHear1 HIN.out H (by rw [hL.out]; exact hHN) (by rw [hL.out]; omega) (fun j => by have := nS_lt first j; omega) (nS first (k - 1)) (by have := nS_lt first (k - 1); omega) 1000 (by omega) (by decide) (clS k H 3 k) (clS_may k H 3 (.inr rfl) k (by omega)) (fun i hi => clS_told first k H 3 i (by omega) (by rw [hL.out] at hi; exact hi)) C g c _ wr HRW.out HAT1.out
              rw [hL.out, if_neg (show ¬ 3 ≤ k - 1 - H by omega), if_neg (show ¬ 3 ≤ k - 1 - H by omega), hP] at h1
              exact h1)
            have i1 : decide ((3 : Int) ≤ (Q : Int)) = false := decide_eq_false (by omega)
            go_upto_region 22 with (first
              | (go_at_call 16; (with_reducible refine (HSTN.out _).mono ?_); rintro e w2 ⟨rfl, rfl⟩)
              | (go_at_call 21; (with_reducible refine HH1.out.mono ?_); rintro e w3 ⟨pG, nG, pL, nL, pX, nX, R, L2, rfl, hr3, hk3, hG2⟩))
            have kb := BlkIs.new #[.slice pG P nG, .slice pL 0 nL, .slice pX 0 nX, .int .i64 0, .int .i64 R] 41 w3
            have hr4 := hr3.below (bel_alloc w3 (.cells #[.slice pG P nG, .slice pL 0 nL, .slice pX 0 nX, .int .i64 0, .int .i64 R] 41))
            have kk4 : Kept [g] wr (w3.alloc (.cells #[.slice pG P nG, .slice pL 0 nL, .slice pX 0 nX, .int .i64 0, .int .i64 R] 41)) := hk3.alloc _
            have hX4 : w3.heap.size < (w3.alloc (.cells #[.slice pG P nG, .slice pL 0 nL, .slice pX 0 nX, .int .i64 0, .int .i64 R] 41)).heap.size ∧ wr.heap.size ≤ w3.heap.size := ⟨by rw [World.size_alloc]; omega, hk3.size⟩
            clear hr3 hk3 HH1
            generalize w3.alloc (.cells #[.slice pG P nG, .slice pL 0 nL, .slice pX 0 nX, .int .i64 0, .int .i64 R] 41) = w4 at *
            generalize w3.heap.size = X1 at *
            have HS4 : Hid (BxS #[.slice pG P nG, .slice pL 0 nL, .slice pX 0 nX, .int .i64 0, .int .i64 R] X1 L2 C g c w4 w4) := Lib.hid ⟨kb, hr4, Below.refl _ _⟩
            have HOU : Hid (∀ W, RecsAt L2 C g c W → Calls Tryz.prog 22 #[.pointer (some ⟨C, 0, none⟩)] W fun e w' => e = .returned (.int .i64 1) ∧ Below W.heap.size W w') := Lib.hid (fun W hW => by
              have h1 := sentOut_any L2 (by rw [hG2.len, hL.out]; omega) C g c W hW
              rw [hG2.outs (by rw [hL.out]; exact hHN)] at h1
              exact h1)
            have HK4 := Lib.hid kk4
            have HX4 := Lib.hid hX4
            have HG2 := Lib.hid hG2
            have HO2 : Hid (∀ W, (BxS #[.slice pG P nG, .slice pL 0 nL, .slice pX 0 nX, .int .i64 0, .int .i64 R] X1 L2 C g c w4 W ∧ W.cell? ⟨X1, 0, none⟩ = some (.slice pG P nG) ∧ W.cell? ⟨X1, 1, none⟩ = some (.slice pL 0 nL) ∧ W.cell? ⟨X1, 2, none⟩ = some (.slice pX 0 nX)) → Calls Tryz.prog 22 #[.pointer (some ⟨C, 0, none⟩)] W fun e w' => e = .returned (.int .i64 1) ∧ (BxS #[.slice pG P nG, .slice pL 0 nL, .slice pX 0 nX, .int .i64 0, .int .i64 R] X1 L2 C g c w4 w' ∧ w'.cell? ⟨X1, 0, none⟩ = some (.slice pG P nG) ∧ w'.cell? ⟨X1, 1, none⟩ = some (.slice pL 0 nL) ∧ w'.cell? ⟨X1, 2, none⟩ = some (.slice pX 0 nX))) := Lib.hid (fun W hW => (HOU.out W hW.1.recs).mono fun e w' ⟨h1, h2⟩ => ⟨h1, (hW.1.more h2).s⟩)
            clear kb hr4 kk4 hX4 hG2
            go_upto_region 23 with fail
            refine wp_region_quietC (fun W => BxS #[.slice pG P nG, .slice pL 0 nL, .slice pX 0 nX, .int .i64 0, .int .i64 R] X1 L2 C g c w4 W ∧ W.cell? ⟨X1, 0, none⟩ = some (.slice pG P nG) ∧ W.cell? ⟨X1, 1, none⟩ = some (.slice pL 0 nL) ∧ W.cell? ⟨X1, 2, none⟩ = some (.slice pX 0 nX)) (by kernel_rfl) (by kernel_rfl) HS4.out.drew.s ?_
            repeat (first
              | go_big_quiet_skip
              | (go_big_quiet_want
                 apply Exists.intro
                 refine ⟨fun W hW => ?_, ?_⟩
                 · first
                   | (obtain ⟨_, k0, k1, k2⟩ := hW
                      go_simp
                      first | rfl | exact ⟨rfl, rfl⟩)
                   | (go_simp
                      exact HO2.out W hW)
                   | (go_simp
                      exact ⟨rfl, HO2.out W hW⟩)
                 go_simp
                 go_big_quiet_on))
            refine wpQuiet_nil ?_
            intro w5 hs5
            have hs := hs5.1
            have HS5 := Lib.hid hs
            clear hs5 HS4 HO2 HOU
            have hrow5 : w5.ownsRow wR.heap.size 38 2 (.slice (some ⟨b2, 0, none⟩) k c2) (clS k H 3 k).length (celList (clS k H 3 k)) := ownsRow_keptC (ownsRow_keptC HROW.out HK4.out HNQ.out) (Kept.of_below [] hs.below) (by simp)
            have hsz5 : w4.heap.size ≤ w5.heap.size := hs.below.size
            have hsz4 : wr.heap.size ≤ w4.heap.size := HK4.out.size
            have hsz3 := HSZ.out
            have hown5 : CelOwn wR.heap.size (.slice (some ⟨b2, 0, none⟩) k c2) (clS k H 3 k) w5 w5 := ⟨hrow5, Below.refl _ _, by omega⟩
            obtain ⟨b3, c3, hu3, _, _, _, hlt5, hcell5, hfro5⟩ := hown5.shape (by rw [clS_len]; omega)
            have hb3 : b3 = b2 := by
              injection hu3 with h9 _ _
              injection h9 with h9
              injection h9 with h9
              exact h9.symm
            clear hu3
            rw [hb3] at hlt5 hcell5 hfro5
            clear hb3
            have e5 := (hcell5 Q (by rw [clS_len]; omega)).1
            obtain ⟨z5, hz5⟩ : ∃ z5, ((clS k H 3 k).getD Q (0, 0)).1 = z5 := ⟨_, rfl⟩
            rw [hz5] at e5
            clear hz5
            have f5 := hfro5 (Q * 2)
            have hQk : Q < k := by omega
            have hQc : Q ≤ c2 := by omega
            have hat6 : C2At (w5.setCell ⟨b2, Q * 2, none⟩ (.int .i64 1)) (.slice (some ⟨b2, 0, none⟩) k c2) (clS k H 1 k) := by
              refine ⟨⟨some ⟨b2, 0, none⟩, c2, by rw [clS_len], by rw [clS_len]; exact hc1, hc2, fun i hi => ⟨b2, 0, rfl, by simpa using hlt5, ?_, ?_⟩⟩, by rw [clS_len]; omega, fun i => ?_⟩
              · rw [clS_len] at hi
                have h1 := (hcell5 i (by rw [clS_len]; exact hi)).1
                rw [clS_get k H 3 k i hi] at h1
                rw [clS_get k H 1 k i hi, Nat.zero_add]
                by_cases hiQ : i = Q
                · subst hiQ
                  rw [if_pos (show k - 1 - i = H by omega)]
                  exact World.cell?_setCell_same _ _ _ h1
                · rw [if_neg (show ¬ k - 1 - i = H by omega)] at h1 ⊢
                  exact (World.cell?_setCell_other _ _ _ _ (fun h2 => by have := congrArg Addr.off h2; simp at this; omega)).trans h1
              · rw [clS_len] at hi
                have h1 := (hcell5 i (by rw [clS_len]; exact hi)).2
                rw [clS_get k H 3 k i hi] at h1
                rw [clS_get k H 1 k i hi, Nat.zero_add]
                exact (World.cell?_setCell_other _ _ _ _ (fun h2 => by have := congrArg Addr.off h2; simp at this; omega)).trans h1
              · by_cases h : i < k
                · rw [clS_get k H 1 k i h]; exact (by decide : -9223372036854775808 ≤ (1 : Int) ∧ (1 : Int) ≤ 9223372036854775807)
                · rw [List.getD_eq_getElem?_getD, List.getElem?_eq_none (by rw [clS_len]; omega)]; exact (by decide : -9223372036854775808 ≤ (0 : Int) ∧ (0 : Int) ≤ 9223372036854775807)
            have kS : Kept [b2] w5 (w5.setCell ⟨b2, Q * 2, none⟩ (.int .i64 1)) := (Kept.refl _ _).setCell (.inl (by simp)) _
            have hCB := HCB.out
            have hr6 : RecsAt L2 C g c (w5.setCell ⟨b2, Q * 2, none⟩ (.int .i64 1)) := hs.recs.kept kS (by
              intro hm
              have h9 := hs.recs.blk
              have h8 := own_blk hrow5 h9 (by decide)
              simp at hm
              subst hm
              exact h8 rfl) (by simp; omega)
            have hX4 := HX4.out
            have hb6 := hs.blk.far (show X1 ≠ (⟨b2, Q * 2, none⟩ : Addr).block by show X1 ≠ b2; omega) (.int .i64 1)
            have hB6 : Below B w (w5.setCell ⟨b2, Q * 2, none⟩ (.int .i64 1)) := ((HBR.out.trans (HK4.out.below (by have := HBR.out.size; have := HBe.out; omega) (by intro x hx; simp at hx; omega))).trans (hs.below.mono (by omega))).setCell (p := ⟨b2, Q * 2, none⟩) (by show B ≤ b2; omega) _
            have HH2 : Hid (Calls Tryz.prog 21 #[.pointer (some ⟨C, 0, none⟩), .int .u64 (nS first P), .slice (some ⟨b2, 0, none⟩) k c2, .int .i64 2000] (w5.setCell ⟨b2, Q * 2, none⟩ (.int .i64 1)) fun e w' => ∃ qG oG qL oL qX oX L3, e = .returned (.agg #[.slice qG 1 oG, .slice qL 0 oL, .slice qX 0 oX, .int .i64 1, .int .i64 D]) ∧ RecsAt L3 C g c w' ∧ Kept [g] (w5.setCell ⟨b2, Q * 2, none⟩ (.int .i64 1)) w' ∧ HoleI H 1 L L3) := Lib.hid (by
              have h1 := threeHear2 HIN.out H 0 (.inl rfl) HG2.out (by rw [hL.out]; exact hHN) (by rw [hL.out]; omega) (fun j => by have := nS_lt first j; omega) (nS first (k - 1)) (by have := nS_lt first (k - 1); omega) 2000 (by omega) (by decide) (clS k H 1 k) (clS_may k H 1 (.inl rfl) k (by omega)) (fun i hi => clS_told first k H 1 i (by omega) (by rw [hL.out] at hi; exact hi)) C g c _ _ hr6 hat6
              rw [if_pos rfl, if_pos rfl, if_pos rfl, HTH.out, HD.out] at h1
              rw [hP] at h1
              exact h1)
            have HAT6 := Lib.hid hat6
            have HB6 := Lib.hid hB6
            have HBX := Lib.hid hb6
            have HGB6 : Hid (g < (w5.setCell ⟨b2, Q * 2, none⟩ (.int .i64 1)).heap.size ∧ b2 < (w5.setCell ⟨b2, Q * 2, none⟩ (.int .i64 1)).heap.size) := Lib.hid ⟨hr6.lt, by simpa using hlt5⟩
            clear hat6 kS hr6 hb6 hB6 hown5 hrow5 hcell5 hfro5 hs hX4 hCB hsz3 hsz4 hsz5
            go_upto_region 26 with fail
            clear e5 f5
            generalize w5.setCell ⟨b2, Q * 2, none⟩ (.int .i64 1) = w6 at *
            go_upto_region 27 with (go_at_call 21; (with_reducible refine HH2.out.mono ?_); rintro e w7 ⟨qG, oG, qL, oL, qX, oX, L3, rfl, hr7, hk7, hG3⟩)
            have kc := BlkIs.new #[.slice qG 1 oG, .slice qL 0 oL, .slice qX 0 oX, .int .i64 1, .int .i64 D] 41 w7
            have kk8 : Kept [g] w6 (w7.alloc (.cells #[.slice qG 1 oG, .slice qL 0 oL, .slice qX 0 oX, .int .i64 1, .int .i64 D] 41)) := hk7.alloc _
            have hr8 := hr7.below (bel_alloc w7 (.cells #[.slice qG 1 oG, .slice qL 0 oL, .slice qX 0 oX, .int .i64 1, .int .i64 D] 41))
            have hX2 : g < w7.heap.size := hr7.lt
            clear hr7 hk7 HH2
            generalize w7.alloc (.cells #[.slice qG 1 oG, .slice qL 0 oL, .slice qX 0 oX, .int .i64 1, .int .i64 D] 41) = w8 at *
            generalize w7.heap.size = X2 at *
            have hat8 := c2_kept HAT6.out kk8 HGB6.out.2 (by have := HSZ.out; simp; omega)
            have HX2 := Lib.hid hX2
            have HKC := Lib.hid kc
            have HK8 := Lib.hid kk8
            have HG3 := Lib.hid hG3
            have HH3 : Hid (Calls Tryz.prog 21 #[.pointer (some ⟨C, 0, none⟩), .int .u64 (nS first P), .slice (some ⟨b2, 0, none⟩) k c2, .int .i64 3000] w8 fun e w' => ∃ sG aG sL aL sX aX, e = .returned (.agg #[.slice sG 0 aG, .slice sL 0 aL, .slice sX 0 aX, .int .i64 0, .int .i64 (-1)]) ∧ RecsAt L3 C g c w' ∧ Kept [g] w8 w') := Lib.hid (by
              have h1 := threeHear3 HIN.out H hG3 (by rw [hL.out]; exact hHN) (by rw [hL.out]; omega) (fun j => by have := nS_lt first j; omega) (nS first (k - 1)) (by have := nS_lt first (k - 1); omega) 3000 (by omega) (by decide) (clS k H 1 k) (clS_may k H 1 (.inl rfl) k (by omega)) C g c _ _ hr8 hat8
              rw [hP] at h1
              exact h1)
            clear kc kk8 hr8 hX2 hat8 hG3
            go_upto_region 28 with (go_at_call 21; (with_reducible refine HH3.out.mono ?_); rintro e w9 ⟨sG, aG, sL, aL, sX, aX, rfl, hr9, hk9⟩)
            have kd := BlkIs.new #[.slice sG 0 aG, .slice sL 0 aL, .slice sX 0 aX, .int .i64 0, .int .i64 (-1)] 41 w9
            have kk10 : Kept [g] w8 (w9.alloc (.cells #[.slice sG 0 aG, .slice sL 0 aL, .slice sX 0 aX, .int .i64 0, .int .i64 (-1)] 41)) := hk9.alloc _
            have hr10 := hr9.below (bel_alloc w9 (.cells #[.slice sG 0 aG, .slice sL 0 aL, .slice sX 0 aX, .int .i64 0, .int .i64 (-1)] 41))
            clear hr9 hk9 HH3
            generalize w9.alloc (.cells #[.slice sG 0 aG, .slice sL 0 aL, .slice sX 0 aX, .int .i64 0, .int .i64 (-1)] 41) = w10 at *
            generalize w9.heap.size = X3 at *
            have hX4 := HX4.out
            have hsz3 := HSZ.out
            have HS10 : Hid (Bx3 #[.slice pG P nG, .slice pL 0 nL, .slice pX 0 nX, .int .i64 0, .int .i64 R] #[.slice qG 1 oG, .slice qL 0 oL, .slice qX 0 oX, .int .i64 1, .int .i64 D] #[.slice sG 0 aG, .slice sL 0 aL, .slice sX 0 aX, .int .i64 0, .int .i64 (-1)] X1 X2 X3 L3 C g c w10 w10) := Lib.hid ⟨(HBX.out.kept HK8.out (by simp; omega)).kept kk10 (by simp; omega), HKC.out.kept kk10 (by have := HX2.out; simp; omega), kd, hr10, Below.refl _ _⟩
            have HB10 : Hid (Below B w w10) := Lib.hid ((HB6.out.trans (HK8.out.below (by have := HB6.out.size; have := HBe.out; omega) (by intro x hx; simp at hx; omega))).trans (kk10.below (by have := HB6.out.size; have := HK8.out.size; have := HBe.out; omega) (by intro x hx; simp at hx; omega)))
            have HOU : Hid (∀ W, RecsAt L3 C g c W → Calls Tryz.prog 22 #[.pointer (some ⟨C, 0, none⟩)] W fun e w' => e = .returned (.int .i64 0) ∧ Below W.heap.size W w') := Lib.hid (fun W hW => by
              have h1 := sentOut_any L3 (by rw [HG3.out.len, hL.out]; omega) C g c W hW
              rw [HG3.out.outs (by rw [hL.out]; exact hHN)] at h1
              exact h1)
            clear kd kk10 hr10 hX4 hsz3 HBX HKC HK8
            obtain ⟨_, k0, k1, k2, k3, k4, k5, k6, k7, k8⟩ := HS10.out.s
            have HO11 := Lib.hid (HOU.out w10 HS10.out.recs)
            clear HS10 HOU
            go_wp2_with (go_at_call 22; (with_reducible refine HO11.out.mono ?_); rintro e w11 ⟨rfl, hs⟩)
            go_ret
            have hbe := HBe.out
            subst hbe
            exact ⟨by first | rfl | simp, bel_trans HB10.out hs⟩
end Go.Proofs.YtkpginmdnlhfbaaGreatDoor
