/-
  What the laid table of the weights says.
  Rows of numbers, and of pairs of numbers, that came in as arguments, opened.
  The law SentUnknown, walked.
  The law SentRtt, walked.
-/
import Derived.Test.YtkpginmdnlhfbaaGreatDoorIvalA
import Derived.Test.YtkpginmdnlhfbaaGreatDoorRows
import Derived.Lib.LaidU8
import Derived.Lib.LaidTab
import Derived.MakeChecks
import Derived.OpenShut
import Derived.Test.YtkpginmdnlhfbaaGreatDoorIntR
import Derived.Test.YtkpginmdnlhfbaaGreatDoorVecB
import Derived.ChangeSlices
import Derived.ChangeSame
import Derived.Deep.Slices
import Derived.Deep.SlicePairs
import Derived.Test.YtkpginmdnlhfbaaGreatDoorLfSn
import Derived.Test.YtkpginmdnlhfbaaGreatDoorBegun8
import Derived.BigQuiet
import Derived.Deep.QuietTactic
namespace Go.Proofs.YtkpginmdnlhfbaaGreatDoor
open Go.ChangeShapes Go.WideShapes Go.ChangeAt Go.RowKit
set_option linter.unusedVariables false
set_option linter.unusedSimpArgs false

theorem tabW_laid {W : World} {l : List (String × DataW Unit)} (h : laidMet Tryz.prog l W) (hm : ("muleteer/ival.weights", (Rows.laid_muleteer_ival_weights : DataW Unit)) ∈ l) : TabW W := by
  obtain ⟨ps, h, _⟩ := h
  obtain ⟨g, t, cs, fuel, p, hg, ht, hvar, hd⟩ := Lib.LaidVars_reads h _ _ hm
  rw [show (Rows.laid_muleteer_ival_weights : DataW Unit) = Lib.tabData .u64 [5, 5, 5, 5, 4, 3, 2, 1] by kernel_rfl] at hd
  have e : Tryz.prog.globalNamed "muleteer/ival.weights" = some 2 := by kernel_rfl
  obtain rfl := Option.some.inj (e.symm.trans hg)
  obtain rfl : t = 212 := (Option.some.inj ((show (Tryz.prog.globals[2]?).map (·.type) = some 212 by kernel_rfl).symm.trans ht)).symm
  have hc := Lib.cells_of_tab Tryz.underlying212 Tryz.underlying22 (by kernel_rfl) (by kernel_rfl) hd
  obtain ⟨cl⟩ := cs
  simp only at hc
  subst hc
  intro i hi
  have h1 := World.var?_cell e hvar i
  rw [h1]
  obtain rfl | rfl | rfl | rfl | rfl | rfl | rfl | rfl : i = 0 ∨ i = 1 ∨ i = 2 ∨ i = 3 ∨ i = 4 ∨ i = 5 ∨ i = 6 ∨ i = 7 := by omega
  all_goals rfl
end Go.Proofs.YtkpginmdnlhfbaaGreatDoor

namespace Go.Proofs.YtkpginmdnlhfbaaGreatDoor
open Go.ChangeShapes Go.WideShapes Go.Deep Go.RowKit
set_option linter.unusedVariables false

theorem addr_plain {w : World} {a : Addr} {v : Value} (h : w.cell? (a.add 0) = some v) : ∃ b o, a = ⟨b, o, none⟩ ∧ b < w.heap.size := by
  have e : a.add 0 = a := by unfold Addr.add; split <;> simp_all
  rw [e] at h
  have hs : a.spot = none := by
    unfold World.cell? at h
    split at h
    · cases hsp : a.spot with
      | none => rfl
      | some x => rw [hsp] at h; simp at h
    · cases h
  have hb := World.block_lt_of_cell? w a h
  obtain ⟨b, o, sp⟩ := a
  simp only at hs
  subst hs
  exact ⟨b, o, rfl, hb⟩
theorem add_plain (b o k : Nat) : (⟨b, o, none⟩ : Addr).add k = ⟨b, o + k, none⟩ := by unfold Addr.add; split <;> simp_all

theorem open_row {H : Type} {enc : TypeId × Value → H} {W : World} {t e : TypeId} {k : IntKind} {p : Option Addr} {n c : Nat} {d : DataW H} {q : List MemPlace}
    (ht : Tryz.prog.underlying t = some (.slice e)) (he : Tryz.prog.underlying e = some (.int k)) (hc : Tryz.prog.cellsOf e = 1)
    (h : DataW.Trod enc Tryz.prog W 0 (fun _ => true) true t (.slice p n c) d q) :
    n ≤ c ∧ c ≤ 9223372036854775807 ∧ ∃ zs : List Int, n ≤ zs.length ∧ (∀ z ∈ zs, (Lit.int k z).wf = true) ∧ ∀ i, i < n → ∃ b o, p = some ⟨b, o, none⟩ ∧ b < W.heap.size ∧ W.cell? ⟨b, o + i, none⟩ = some (.int k (zs.getD i 0)) := by
  obtain ⟨fuel, hf⟩ := h
  rcases open_ints ht he hc hf with ⟨hcs, hx⟩ | ⟨a, len', cap', zs, hcs, _, hl, hm, hz, hx, hcell, hwz⟩
  · simp [Value.cells] at hcs
    obtain ⟨rfl, rfl, rfl⟩ := hcs
    exact ⟨by omega, by omega, [], by simp, by simp, fun i hi => absurd hi (Nat.not_lt_zero i)⟩
  · simp [Value.cells] at hcs
    obtain ⟨rfl, rfl, rfl⟩ := hcs
    simp only [if_true] at hz
    have hm' : c ≤ 9223372036854775807 := hm
    refine ⟨hl, hm', zs, by omega, hwz, fun i hi => ?_⟩
    obtain ⟨b, o, rfl, hb⟩ := addr_plain (hcell 0 (by omega))
    have h1 := hcell i (by omega)
    rw [add_plain] at h1
    exact ⟨b, o, rfl, hb, h1⟩

theorem getD_take_lt {α : Type} (l : List α) (d : α) (m i : Nat) (h : i < m) : (l.take m).getD i d = l.getD i d := by
  rw [List.getD_eq_getElem?_getD, List.getD_eq_getElem?_getD, List.getElem?_take, if_pos h]
theorem getD_prop {α : Type} {P : α → Prop} {l : List α} {d : α} (h : ∀ z ∈ l, P z) (hd : P d) (i : Nat) : P (l.getD i d) := by
  rw [List.getD_eq_getElem?_getD]
  by_cases hi : i < l.length
  · rw [List.getElem?_eq_getElem hi]; exact h _ (List.getElem_mem _)
  · rw [List.getElem?_eq_none (by omega)]; exact hd

/-- Its first m numbers, signed. -/
theorem open_i64s {H : Type} {enc : TypeId × Value → H} {W : World} {t e : TypeId} {p : Option Addr} {n c : Nat} {d : DataW H} {q : List MemPlace} (m : Nat) (hm : m ≤ 1073741824)
    (ht : Tryz.prog.underlying t = some (.slice e)) (he : Tryz.prog.underlying e = some (.int .i64)) (hc : Tryz.prog.cellsOf e = 1)
    (h : DataW.Trod enc Tryz.prog W 0 (fun _ => true) true t (.slice p n c) d q) :
    n ≤ c ∧ c ≤ 9223372036854775807 ∧ ∃ l : List Int, l.length = min n m ∧ I64At W (.slice p l.length c) l := by
  obtain ⟨h1, h2, zs, h3, h4, h5⟩ := open_row ht he hc h
  have hl : (zs.take (min n m)).length = min n m := by rw [List.length_take]; omega
  refine ⟨h1, h2, zs.take (min n m), hl, ⟨p, c, rfl, by omega, h2, fun i hi => ?_⟩, by omega, fun i => ?_⟩
  · rw [getD_take_lt _ _ _ _ (by omega)]
    exact h5 i (by omega)
  · exact getD_prop (P := fun z => -9223372036854775808 ≤ z ∧ z ≤ 9223372036854775807) (fun z hz => bounds_i64 (h4 z (List.mem_of_mem_take hz))) (by decide) i
/-- All its numbers, signed. -/
theorem open_i64w {H : Type} {enc : TypeId × Value → H} {W : World} {t e : TypeId} {p : Option Addr} {n c : Nat} {d : DataW H} {q : List MemPlace}
    (ht : Tryz.prog.underlying t = some (.slice e)) (he : Tryz.prog.underlying e = some (.int .i64)) (hc : Tryz.prog.cellsOf e = 1)
    (h : DataW.Trod enc Tryz.prog W 0 (fun _ => true) true t (.slice p n c) d q) :
    n ≤ c ∧ c ≤ 9223372036854775807 ∧ ∃ l : List Int, l.length = n ∧ ∀ i, i < l.length → ∃ b o, p = some ⟨b, o, none⟩ ∧ b < W.heap.size ∧ W.cell? ⟨b, o + i, none⟩ = some (.int .i64 (l.getD i 0)) := by
  obtain ⟨h1, h2, zs, h3, h4, h5⟩ := open_row ht he hc h
  have hl : (zs.take n).length = n := by rw [List.length_take]; omega
  refine ⟨h1, h2, zs.take n, hl, fun i hi => ?_⟩
  rw [getD_take_lt _ _ _ _ (by omega)]
  exact h5 i (by omega)
/-- Its first m numbers, without a sign. -/
theorem open_u64s {H : Type} {enc : TypeId × Value → H} {W : World} {t e : TypeId} {p : Option Addr} {n c : Nat} {d : DataW H} {q : List MemPlace} (m : Nat) (hm : m ≤ 1073741824)
    (ht : Tryz.prog.underlying t = some (.slice e)) (he : Tryz.prog.underlying e = some (.int .u64)) (hc : Tryz.prog.cellsOf e = 1)
    (h : DataW.Trod enc Tryz.prog W 0 (fun _ => true) true t (.slice p n c) d q) :
    n ≤ c ∧ c ≤ 9223372036854775807 ∧ ∃ l : List Nat, l.length = min n m ∧ U64At W (.slice p l.length c) l := by
  obtain ⟨h1, h2, zs, h3, h4, h5⟩ := open_row ht he hc h
  have hb : ∀ i, 0 ≤ zs.getD i 0 ∧ zs.getD i 0 ≤ 18446744073709551615 := fun i => getD_prop (P := fun z => 0 ≤ z ∧ z ≤ 18446744073709551615) (fun z hz => bounds_u64 (h4 z hz)) (by decide) i
  have hl : ((zs.take (min n m)).map Int.toNat).length = min n m := by rw [List.length_map, List.length_take]; omega
  have hg : ∀ i, i < min n m → ((((zs.take (min n m)).map Int.toNat).getD i 0 : Nat) : Int) = zs.getD i 0 := fun i hi => by
    have h6 := hb i
    rw [List.getD_eq_getElem?_getD] at h6
    rw [List.getD_eq_getElem?_getD, List.getD_eq_getElem?_getD, List.getElem?_map, List.getElem?_take, if_pos hi]
    have hz : i < zs.length := by omega
    rw [List.getElem?_eq_getElem hz] at h6 ⊢
    simp only [Option.getD_some, Option.map_some] at h6 ⊢
    omega
  refine ⟨h1, h2, (zs.take (min n m)).map Int.toNat, hl, ⟨p, c, rfl, by omega, h2, fun i hi => ?_⟩, by omega, fun i => ?_⟩
  · rw [hg i (by omega)]
    exact h5 i (by omega)
  · by_cases hi : i < min n m
    · have h6 := hb i
      have h7 := hg i hi
      omega
    · rw [List.getD_eq_getElem?_getD, List.getElem?_eq_none (by omega)]
      decide

/-- A row of pairs of numbers, whole. -/
theorem open_pairs {H : Type} {enc : TypeId × Value → H} {W : World} {t e : TypeId} {f0 f1 : Field} {p : Option Addr} {n c : Nat} {d : DataW H} {q : List MemPlace}
    (ht : Tryz.prog.underlying t = some (.slice e)) (he : Tryz.prog.underlying e = some (.struct #[f0, f1])) (ce : Tryz.prog.cellsOf e = 2) (o0 : f0.offset = 0) (o1 : f1.offset = 1) (c0 : Tryz.prog.cellsOf f0.type = 1) (c1 : Tryz.prog.cellsOf f1.type = 1)
    (u0 : Tryz.prog.underlying f0.type = some (.int .i64)) (u1 : Tryz.prog.underlying f1.type = some (.int .i64))
    (h : DataW.Trod enc Tryz.prog W 0 (fun _ => true) true t (.slice p n c) d q) :
    n ≤ c ∧ c ≤ 9223372036854775807 ∧ ∃ l : List Cel, l.length = n ∧ (∀ x ∈ l, -9223372036854775808 ≤ x.2 ∧ x.2 ≤ 9223372036854775807) ∧
      ∀ i, i < l.length → ∃ b o, p = some ⟨b, o, none⟩ ∧ b < W.heap.size ∧ W.cell? ⟨b, o + i * 2, none⟩ = some (.int .i64 (l.getD i (0, 0)).1) ∧ W.cell? ⟨b, o + i * 2 + 1, none⟩ = some (.int .i64 (l.getD i (0, 0)).2) := by
  obtain ⟨fuel, hf⟩ := h
  rcases open_slice_pairs ht he ce o0 o1 c0 c1 hf with ⟨hcs, hx⟩ | ⟨a, len, cap, m, n', V0, V1, D0, D1, P0, P1, hcs, _, hl, hm, hmm, hx, hi⟩
  · simp [Value.cells] at hcs
    obtain ⟨rfl, rfl, rfl⟩ := hcs
    exact ⟨by omega, by omega, [], rfl, by simp, fun i hi => absurd hi (Nat.not_lt_zero i)⟩
  · simp [Value.cells] at hcs
    obtain ⟨rfl, rfl, rfl⟩ := hcs
    have hm' : c ≤ 9223372036854775807 := hm
    simp only [if_true] at hmm
    have key : ∀ i, i < n → ∃ x : Cel, V0 i = .int .i64 x.1 ∧ V1 i = .int .i64 x.2 ∧ (-9223372036854775808 ≤ x.2 ∧ x.2 ≤ 9223372036854775807) := by
      intro i hin
      obtain ⟨_, _, k0, k1⟩ := hi i (by omega)
      obtain ⟨z0, hz0, _, _⟩ := DataW.trod_int u0 k0
      obtain ⟨z1, hz1, _, hw1⟩ := DataW.trod_int u1 k1
      simp at hz0 hz1
      exact ⟨(z0, z1), hz0, hz1, bounds_i64 hw1⟩
    have hlist : ∀ m', m' ≤ n → ∃ l : List Cel, l.length = m' ∧ (∀ x ∈ l, -9223372036854775808 ≤ x.2 ∧ x.2 ≤ 9223372036854775807) ∧ ∀ i, i < m' → V0 i = .int .i64 (l.getD i (0, 0)).1 ∧ V1 i = .int .i64 (l.getD i (0, 0)).2 := by
      intro m'
      induction m' with
      | zero => exact fun _ => ⟨[], rfl, by simp, fun i hi => absurd hi (Nat.not_lt_zero i)⟩
      | succ m' ih =>
        intro hmn
        obtain ⟨l, hl1, hl2, hl3⟩ := ih (by omega)
        obtain ⟨x, hx0, hx1, hx2⟩ := key m' (by omega)
        refine ⟨l ++ [x], by simp [hl1], fun y hy => ?_, fun i hi' => ?_⟩
        · rcases List.mem_append.1 hy with h8 | h8
          · exact hl2 y h8
          · rw [List.mem_singleton.1 h8]; exact hx2
        · by_cases e' : i < m'
          · have h9 := hl3 i e'
            rw [List.getD_eq_getElem?_getD] at h9 ⊢
            rwa [List.getElem?_append_left (by omega)]
          · obtain rfl : i = m' := by omega
            rw [List.getD_eq_getElem?_getD, List.getElem?_append_right (by omega), hl1]
            simpa using ⟨hx0, hx1⟩
    obtain ⟨l, hl1, hl2, hl3⟩ := hlist n (Nat.le_refl _)
    refine ⟨hl, hm', l, hl1, hl2, fun i hi' => ?_⟩
    have h0 := (hi 0 (by omega)).1
    rw [Nat.zero_mul] at h0
    obtain ⟨b, o, rfl, hb⟩ := addr_plain h0
    obtain ⟨h6, h7, _, _⟩ := hi i (by omega)
    obtain ⟨h8, h9⟩ := hl3 i (by omega)
    rw [add_plain] at h6 h7
    rw [h8] at h6
    rw [h9] at h7
    exact ⟨b, o, rfl, hb, h6, h7⟩
end Go.Proofs.YtkpginmdnlhfbaaGreatDoor

namespace Go.Proofs.YtkpginmdnlhfbaaGreatDoor
open Go.ChangeShapes Go.WideShapes Go.ChangeAt Go.RowKit
set_option linter.unusedVariables false
set_option linter.unusedSimpArgs false

/-- The number i steps on. -/
def nS (first i : Nat) : Nat := (first + i) % 281474976710656
theorem nS_step (first i : Nat) : stepI first (i : Int) = (nS first i : Int) := by unfold stepI nS; omega
theorem nS_lt (first i : Nat) : nS first i < 281474976710656 := Nat.mod_lt _ (by decide)
theorem nS_next (first j : Nat) (hj : j < 200) : diffI (nS first j) (nS first (j + 1)) < 0 := by unfold diffI nS; omega
theorem own_shape {w : World} {B T sz n : Nat} {v : Value} {xs : List Value} (h : w.ownsRow B T sz v n xs) : ∃ p c, v = .slice p n c := by
  rcases h.2 with ⟨rfl, h0⟩ | ⟨g, cap, cur, rfl, _⟩
  · exact ⟨none, 0, by rw [h0]⟩
  · exact ⟨_, _, rfl⟩
theorem told_far (T : List Int) (hT : T.length ≤ 1000) (d : Int) (hd : d < 0 ∨ 1000 ≤ d) : M.told T d = 3 := by
  unfold M.told
  by_cases h : d < 0
  · rw [if_pos h]
  · rw [if_neg h, List.getD_eq_getElem?_getD, List.getElem?_eq_none (by omega)]
    rfl
theorem lose_out {s : Nat → Nat} {T : Int} {L : List Rec} (h : SntI s T L) : (LsS.upto L L.length).ns = [] ∧ (LsS.upto L L.length).recs = L :=
  lose_no L fun k hk h0 => by
    have : (LsS.upto L k).b = 0 := lose_b0 L k (by omega) (fun i h2 h3 => by rw [h.out i h3]; decide)
    omega
theorem unkHear {s : Nat → Nat} {L : List Rec} (hI : SntI s 0 L) (hs : ∀ j, s j < 281474976710656) (hL0 : 0 < L.length) (hL : L.length ≤ 200) (ack : Nat) (hack : ack < 18446744073709551616) (hfar : ∀ i, i < L.length → diffI ack (s i) < 0 ∨ 1000 ≤ diffI ack (s i)) (l : List Cel) (C g c : Nat) (v : Value) (w : World) (h : RecsAt L C g c w) (hv : C2Wd w v l) :
    Calls Tryz.prog 21 #[.pointer (some ⟨C, 0, none⟩), .int .u64 ack, v, .int .i64 5] w fun e w' => ∃ pG nG pL nL pX nX, e = .returned (.agg #[.slice pG 0 nG, .slice pL 0 nL, .slice pX 0 nX, .int .i64 0, .int .i64 (-1)]) ∧ RecsAt L C g c w' ∧ Kept [g] w w' := by
  cases hm : mayF 0 l with
  | false =>
    refine (sentHear_bad C ack 5 l hm v w hv).mono ?_
    rintro e w' ⟨rfl, hb⟩
    exact ⟨none, 0, none, 0, none, 0, rfl, h.below hb, Kept.of_below _ hb⟩
  | true =>
    have hl := spread_len l 0 (by decide) (by decide) hm
    exact hearNone hL0 hL (fun i hi => by rw [hI.num i hi]; have := hs i; omega) ack hack 5 (by decide) (fun i hi => by
      have h1 := hI.time i hi
      exact ⟨h1.1, by omega, .inl (hI.out i hi)⟩) l hm (fun i hi => by
      left
      rw [hI.num i hi]
      exact told_far _ (by omega) _ (hfar i hi)) (lose_out hI) C g c v w h (hv.at hm)
theorem sntRecs {s : Nat → Nat} {T : Int} {L : List Rec} {C B : Nat} {v : Value} {w0 W : World} (h : SntW s T L C B v w0 W) (hL : 0 < L.length) : ∃ g c, RecsAt L C g c W ∧ B ≤ g := by
  obtain ⟨g, c, e, _⟩ := h.at_.row.shape hL
  have h1 := h.at_
  rw [e] at h1
  exact ⟨g, c, h1.recs hL, h.blk g (by rw [e]; rfl)⟩
set_option maxHeartbeats 8000000 in
set_option maxRecDepth 100000 in
theorem sentUnknown_walk (first : Nat) (hfi : first < 18446744073709551616) (nn oo : Int) (n1 : -9223372036854775808 ≤ nn) (n2 : nn ≤ 9223372036854775807) (m1 : -9223372036854775808 ≤ oo) (m2 : oo ≤ 9223372036854775807) (p : Option Addr) (cn cap : Nat) (hcc : cn ≤ cap) (hcm : cap ≤ 9223372036854775807) (l l20 : List Cel) (hl : l.length = cn) (w : World) (hT : TabW w) (hv : C2Wd w (.slice p cn cap) l) (hl20 : l20.length = min cn 20) (hv20 : C2At w (.slice p l20.length cap) l20) :
    Calls Tryz.prog 5 #[.int .u64 first, .int .i64 nn, .int .i64 oo, .slice p cn cap] w fun e w' => e = .returned (.bool true) ∧ Below w.heap.size w w' := by
  have HBG : Hid (Calls Tryz.prog 13 #[] w fun e w' => e = .returned (.bool true) ∧ Below w.heap.size w w') := Lib.hid (begun8_any w hT)
  clear hT
  obtain ⟨a, ha, a1, a2, J, hJ, hJ3⟩ := mod_at nn 20 (by decide)
  obtain ⟨N, hN⟩ : ∃ N : Nat, 1 + (J : Int) = (N : Int) := ⟨1 + J, by omega⟩
  have hN1 : 1 ≤ N := by omega
  have hN2 : N < 21 := by omega
  obtain ⟨O, hO, o1, o2, _⟩ := mod_at oo 1099511627776 (by decide)
  obtain ⟨B, hB⟩ : ∃ B, w.heap.size = B := ⟨_, rfl⟩
  have HBe := Lib.hid hB
  have HST : Hid (∀ i : Nat, i ≤ 100 → ∀ W, Calls Tryz.prog 16 #[.int .u64 first, .int .i64 i] W fun e w' => e = .returned (.int .u64 (nS first i : Int)) ∧ W = w') := Lib.hid (fun i hi W => by rw [← nS_step]; exact refStep_any first i hfi (by omega) (by omega) W)
  have HSX : Hid (∀ x : Int, -9223372036854775808 ≤ x → x ≤ 9223372036854775807 → ∃ y : Nat, stepI first x = (y : Int) ∧ ∀ W, Calls Tryz.prog 16 #[.int .u64 first, .int .i64 x] W fun e w' => e = .returned (.int .u64 (y : Int)) ∧ W = w') := Lib.hid (fun x h1 h2 => ⟨(stepI first x).toNat, by unfold stepI; omega, fun W => by
    have h3 := refStep_any first x hfi h1 h2 W
    rw [show stepI first x = (((stepI first x).toNat : Nat) : Int) by unfold stepI; omega] at h3
    exact h3⟩)
  have HV := Lib.hid hv
  have HV20 := Lib.hid hv20
  have HL := Lib.hid hl
  have HL20 := Lib.hid hl20
  clear hv hv20 hl hl20
  go_enter Tryz.func5, Tryz.ntmps5
  go_upto_region 6 with (first
    | (go_at_call 13; (with_reducible refine HBG.out.mono ?_); rintro e w0 ⟨rfl, hb0⟩)
    | (go_at_call 19; (with_reducible refine (sentNew_any _).mono ?_); rintro e w1 ⟨C, rfl, hg1, hc1, hb1⟩))
  have HI0 : Hid (SntW (nS first) 0 [] C B (.slice none 0 0) w w1) := Lib.hid (SntW.start _ C B w w1 hg1 (by rw [← hB]; exact bel_trans hb0 hb1) ⟨by rw [← hB]; exact Nat.le_trans hb0.size hc1, hB⟩)
  clear hb0 hg1 hc1 hb1 ha hJ hN hB
  go_wp2
  go_loopw [11] (fun iv wr => ∃ (i : Nat) (L : List Rec) (v : Value), iv = .int .i64 (i : Int) ∧ i ≤ N ∧ Hid (L.length = i) ∧ Hid (SntW (nS first) 0 L C B v w wr)) (fun iv _ => N - (intOf iv).toNat)
  case atStart => exact ⟨0, [], _, rfl, Nat.zero_le _, Lib.hid rfl, HI0⟩
  case round =>
    clear HI0
    obtain ⟨i, L, v, rfl, hi, hL, hI⟩ := hrel
    by_cases hlt : i < N
    · have d1 : decide ((i : Int) < (N : Int)) = true := decide_eq_true (by omega)
      have HSI := Lib.hid (HST.out i (by omega))
      have HP : Hid (Calls Tryz.prog 20 #[.pointer (some ⟨C, 0, none⟩), .int .u64 (nS first i), .int .i64 0] wr fun e w' => e = .returned (.bool true) ∧ ∃ v', SntW (nS first) 0 (L ++ [(nS first L.length, 0, 0)]) C B v' w w' ∧ (∃ g c, v' = .slice (some ⟨g, 0, none⟩) (L.length + 1) c) ∧ Kept (C :: own v) wr w') := Lib.hid (by
        have h1 := hI.out.put (T2 := 0) (nS_lt first) (nS_next first) (by rw [hL.out]; omega) (Int.le_refl _) (Int.le_refl _) (by decide)
        rw [hL.out] at h1 ⊢
        exact h1)
      go_wp2_with (first
        | (go_at_call 16; (with_reducible refine (HSI.out _).mono ?_); rintro e w2 ⟨rfl, rfl⟩)
        | (go_at_call 20; (with_reducible refine HP.out.mono ?_); rintro e w3 ⟨rfl, v3, hI3, _, _⟩))
      refine ⟨⟨i + 1, _, v3, by go_num, by omega, Lib.hid (by rw [List.length_append, hL.out]; rfl), Lib.hid hI3⟩, ?_⟩
      simp [intOf]; omega
    · have d1 : decide ((i : Int) < (N : Int)) = false := decide_eq_false (by omega)
      obtain rfl : i = N := by omega
      obtain ⟨g, c, hr, hgB⟩ := sntRecs hI.out (by rw [hL.out]; omega)
      have HR := Lib.hid hr
      have HIN := Lib.hid hI.out.inv
      have HBW := Lib.hid hI.out.below
      have HCB := Lib.hid (show B ≤ C ∧ B ≤ g from ⟨hI.out.size.1, hgB⟩)
      have HOU : Hid (∀ W, RecsAt L C g c W → Calls Tryz.prog 22 #[.pointer (some ⟨C, 0, none⟩)] W fun e w' => e = .returned (.int .i64 (i : Int)) ∧ Below W.heap.size W w') := Lib.hid (fun W hW => by
        have h1 := sentOut_any L (by rw [hL.out]; omega) C g c W hW
        rw [HIN.out.outs, hL.out] at h1
        exact h1)
      have HVW := Lib.hid (HV.out.below (by rw [HBe.out]; exact HBW.out))
      have HV20W := Lib.hid (HV20.out.below (by rw [HBe.out]; exact HBW.out))
      clear hr hgB hI HST HV
      by_cases hO0 : 0 ≤ O
      · have e1 : decide ((0 : Int) ≤ O) = true := decide_eq_true hO0
        obtain ⟨M20, hM20⟩ : ∃ M20, min cn 20 = M20 := ⟨_, rfl⟩
        obtain ⟨q1, q2, q3, q4, q5, q6⟩ := mns cn 20 M20 hM20
        have q1' : (if (20 : Int) < (cn : Int) then (20 : Int) else (cn : Int)) = (M20 : Int) := q1
        have q2' : (if 20 < cn then (20 : Int) else (cn : Int)) = (M20 : Int) := q2
        have q3' : min (cn : Int) 20 = (M20 : Int) := q3
        have hMc : M20 ≤ cap := by omega
        have hL20 := HL20.out
        rw [hM20] at hL20
        rw [hL20] at HV20W
        obtain ⟨y, hy, hSX⟩ := HSX.out (2000 + O) (by omega) (by omega)
        have HSX2 := Lib.hid hSX
        have HH : Hid (Calls Tryz.prog 21 #[.pointer (some ⟨C, 0, none⟩), .int .u64 y, .slice p M20 cap, .int .i64 5] wr fun e w' => ∃ pG nG pL nL pX nX, e = .returned (.agg #[.slice pG 0 nG, .slice pL 0 nL, .slice pX 0 nX, .int .i64 0, .int .i64 (-1)]) ∧ RecsAt L C g c w' ∧ Kept [g] wr w') := Lib.hid (unkHear HIN.out (nS_lt first) (by rw [hL.out]; omega) (by rw [hL.out]; omega) y (by unfold stepI at hy; omega) (fun j hj => by
          right
          rw [hL.out] at hj
          unfold stepI at hy
          unfold diffI nS
          omega) l20 C g c _ wr HR.out ⟨by have := HV20W.out.at_; rw [hL20]; rw [hL20] at this; exact this, HV20W.out.small⟩)
        have HRS : Hid (∀ W, C2At W (.slice p M20 cap) l20 → Calls Tryz.prog 23 #[.slice p M20 cap] W fun e w' => ∃ p n c, e = .returned (.slice p n c) ∧ n ≤ 1000 ∧ Below W.heap.size W w') := Lib.hid (fun W hW => (refSpread_any _ l20 W hW).mono (by
          rintro e w' ⟨v', rfl, h1⟩
          obtain ⟨p', c', rfl⟩ := own_shape h1.1
          refine ⟨p', _, c', rfl, ?_, h1.2.1⟩
          unfold spreadR
          split
          · rename_i hmf
            have := spread_len l20 0 (by decide) (by decide) hmf
            omega
          · simp))
        have e3 : decide ((2000 : Int) ≤ 2000 + O) = true := decide_eq_true (by omega)
        have HM20 := Lib.hid hM20
        clear hy hSX hL20 hM20 q1 q2 q3
        go_upto_region 16 with (first
          | (go_at_call 16; (with_reducible refine (HSX2.out _).mono ?_); rintro e w2 ⟨rfl, rfl⟩)
          | (go_at_call 21; (with_reducible refine HH.out.mono ?_); rintro e w3 ⟨pG, nG, pL, nL, pX, nX, rfl, hr3, hk3⟩))
        have hb3 : Below B w w3 := HBW.out.trans (hk3.below (by have := HBe.out; have := HBW.out.size; omega) (by intro x hx; have := HCB.out.2; simp at hx; omega))
        have kb := BlkIs.new #[.slice pG 0 nG, .slice pL 0 nL, .slice pX 0 nX, .int .i64 0, .int .i64 (-1)] 41 w3
        have HR4 : Hid (RecsAt L C g c (w3.alloc (.cells #[.slice pG 0 nG, .slice pL 0 nL, .slice pX 0 nX, .int .i64 0, .int .i64 (-1)] 41))) := Lib.hid (hr3.below (bel_alloc _ _))
        have HB4 : Hid (Below B w (w3.alloc (.cells #[.slice pG 0 nG, .slice pL 0 nL, .slice pX 0 nX, .int .i64 0, .int .i64 (-1)] 41))) := Lib.hid (hb3.trans ((bel_alloc w3 _).mono (by have := hb3.size; have := HBe.out; omega)))
        clear hr3 hk3 hb3 HH HR
        generalize w3.alloc (.cells #[.slice pG 0 nG, .slice pL 0 nL, .slice pX 0 nX, .int .i64 0, .int .i64 (-1)] 41) = w4 at *
        generalize w3.heap.size = X at *
        have HV4 : Hid (C2At w4 (.slice p M20 cap) l20) := Lib.hid (by
          have h1 := HV20.out.below (by rw [HBe.out]; exact HB4.out)
          rw [HL20.out, HM20.out] at h1
          exact h1)
        have HRS4 := Lib.hid (HRS.out w4 HV4.out)
        clear HV20W HRS
        go_upto_region 18 with (go_at_call 23; (with_reducible refine HRS4.out.mono ?_); rintro e w5 ⟨p5, n5, c5, rfl, hn5, hb5⟩; have f5 : decide ((1000 : Int) < (n5 : Int)) = false := decide_eq_false (by omega); have f6 : ¬ 1000 < n5 := by omega)
        have k5 := kb.below hb5
        have hr5 := HR4.out.below hb5
        have hb6 : Below B w w5 := HB4.out.trans (hb5.mono (by have := HB4.out.size; have := HBe.out; omega))
        clear hb5 kb HR4 HB4
        have y0 : w5.cell? ⟨X, 0, none⟩ = some (.slice pG 0 nG) := BlkIs.cell k5 0
        have y2 : w5.cell? ⟨X, 2, none⟩ = some (.slice pX 0 nX) := BlkIs.cell k5 2
        have y4 : w5.cell? ⟨X, 4, none⟩ = some (.int .i64 (-1)) := BlkIs.cell k5 4
        have HO5 := Lib.hid (HOU.out w5 hr5)
        have HB6 := Lib.hid hb6
        clear k5 hr5 hb6
        go_wp2_with (go_at_call 22; (with_reducible refine HO5.out.mono ?_); rintro e w6 ⟨rfl, hb7⟩)
        go_ret
        have hbe := HBe.out
        subst hbe
        exact ⟨rfl, bel_trans HB6.out hb7⟩
      · have e1 : decide ((0 : Int) ≤ O) = false := decide_eq_false hO0
        have i2 : IntKind.i64.wrap (O - 1) = O - 1 := by rw [IntKind.wrap_i64]; omega
        obtain ⟨y, hy, hSX⟩ := HSX.out (O - 1) (by omega) (by omega)
        have HSX2 := Lib.hid hSX
        have HH : Hid (Calls Tryz.prog 21 #[.pointer (some ⟨C, 0, none⟩), .int .u64 y, .slice p cn cap, .int .i64 5] wr fun e w' => ∃ pG nG pL nL pX nX, e = .returned (.agg #[.slice pG 0 nG, .slice pL 0 nL, .slice pX 0 nX, .int .i64 0, .int .i64 (-1)]) ∧ RecsAt L C g c w' ∧ Kept [g] wr w') := Lib.hid (unkHear HIN.out (nS_lt first) (by rw [hL.out]; omega) (by rw [hL.out]; omega) y (by unfold stepI at hy; omega) (fun j hj => by
          left
          rw [hL.out] at hj
          unfold stepI at hy
          unfold diffI nS
          omega) l C g c _ wr HR.out HVW.out)
        have e3 : decide ((2000 : Int) ≤ O - 1) = false := decide_eq_false (by omega)
        have e4 : ¬ (2000 : Int) ≤ O - 1 := by omega
        clear hy hSX
        go_upto_region 18 with (first
          | (go_at_call 16; (with_reducible refine (HSX2.out _).mono ?_); rintro e w2 ⟨rfl, rfl⟩)
          | (go_at_call 21; (with_reducible refine HH.out.mono ?_); rintro e w3 ⟨pG, nG, pL, nL, pX, nX, rfl, hr3, hk3⟩))
        have hb3 : Below B w w3 := HBW.out.trans (hk3.below (by have := HBe.out; have := HBW.out.size; omega) (by intro x hx; have := HCB.out.2; simp at hx; omega))
        have kb := BlkIs.new #[.slice pG 0 nG, .slice pL 0 nL, .slice pX 0 nX, .int .i64 0, .int .i64 (-1)] 41 w3
        have HR4 : Hid (RecsAt L C g c (w3.alloc (.cells #[.slice pG 0 nG, .slice pL 0 nL, .slice pX 0 nX, .int .i64 0, .int .i64 (-1)] 41))) := Lib.hid (hr3.below (bel_alloc _ _))
        have HB4 : Hid (Below B w (w3.alloc (.cells #[.slice pG 0 nG, .slice pL 0 nL, .slice pX 0 nX, .int .i64 0, .int .i64 (-1)] 41))) := Lib.hid (hb3.trans ((bel_alloc w3 _).mono (by have := hb3.size; have := HBe.out; omega)))
        clear hr3 hk3 hb3 HH HR
        generalize w3.alloc (.cells #[.slice pG 0 nG, .slice pL 0 nL, .slice pX 0 nX, .int .i64 0, .int .i64 (-1)] 41) = w4 at *
        generalize w3.heap.size = X at *
        have k5 := kb
        have hr5 := HR4.out
        have hb6 := HB4.out
        obtain ⟨w5, hw5⟩ : ∃ w5, w4 = w5 := ⟨_, rfl⟩
        rw [hw5] at k5 hr5 hb6 ⊢
        clear kb HR4 HB4 hw5
        have y0 : w5.cell? ⟨X, 0, none⟩ = some (.slice pG 0 nG) := BlkIs.cell k5 0
        have y2 : w5.cell? ⟨X, 2, none⟩ = some (.slice pX 0 nX) := BlkIs.cell k5 2
        have y4 : w5.cell? ⟨X, 4, none⟩ = some (.int .i64 (-1)) := BlkIs.cell k5 4
        have HO5 := Lib.hid (HOU.out w5 hr5)
        have HB6 := Lib.hid hb6
        clear k5 hr5 hb6
        go_wp2_with (go_at_call 22; (with_reducible refine HO5.out.mono ?_); rintro e w6 ⟨rfl, hb7⟩)
        go_ret
        have hbe := HBe.out
        subst hbe
        exact ⟨rfl, bel_trans HB6.out hb7⟩
/-- The first m of a row of cells that came in. -/
theorem c2_firstU {W : World} {p : Option Addr} {n c : Nat} {l : List Cel} (m : Nat) (hm : m ≤ 1073741824) (hl : l.length = n) (hn : n ≤ c) (hc : c ≤ 9223372036854775807) (hs : ∀ x ∈ l, -9223372036854775808 ≤ x.2 ∧ x.2 ≤ 9223372036854775807)
    (h : ∀ i, i < l.length → ∃ b o, p = some ⟨b, o, none⟩ ∧ b < W.heap.size ∧ W.cell? ⟨b, o + i * 2, none⟩ = some (.int .i64 (l.getD i (0, 0)).1) ∧ W.cell? ⟨b, o + i * 2 + 1, none⟩ = some (.int .i64 (l.getD i (0, 0)).2)) :
    ∃ l2 : List Cel, l2.length = min n m ∧ C2At W (.slice p l2.length c) l2 := by
  have hlen : (l.take m).length = min n m := by rw [List.length_take]; omega
  refine ⟨l.take m, hlen, ⟨p, c, rfl, by omega, hc, fun i hi => ?_⟩, by omega, fun i => ?_⟩
  · rw [getD_take_lt _ _ _ _ (by omega)]
    exact h i (by omega)
  · exact getD_prop (P := fun x : Cel => -9223372036854775808 ≤ x.2 ∧ x.2 ≤ 9223372036854775807) (fun x hx => hs x (List.mem_of_mem_take hx)) (by decide) i
end Go.Proofs.YtkpginmdnlhfbaaGreatDoor

namespace Go.Proofs.YtkpginmdnlhfbaaGreatDoor
open Go.ChangeShapes Go.WideShapes Go.ChangeAt Go.RowKit
set_option linter.unusedVariables false
set_option linter.unusedSimpArgs false

theorem wp_q64 {ops : Array Oper} {rest : List Oper} {o : Oper} {a : Act} {Q : Exit → Act → World → Prop} (hgd : o.guard = none) (s x : Operand)
    (ho : o.op = .call { callee := .builtin .append, args := #[s, x], argTypes := #[63, 63] })
    (B : Nat) (v : Value) (l : List Int) (z : Int) (hs : a.eval s = v) (w : World) (hb : w.ownsRow B 2 1 v l.length (l.map i64V)) (hB : B ≤ w.heap.size) (b : Nat)
    (hx : a.eval x = .slice (some ⟨b, 0, none⟩) 1 1) (hm : w.cell? ⟨b, 0, none⟩ = some (i64V z)) (hlen : l.length ≤ 1073741824)
    (h : ∀ v' w', w'.ownsRow B 2 1 v' (l ++ [z]).length ((l ++ [z]).map i64V) → w.grownBy w' v.ownBlock → wpList Tryz.prog ops Q rest (a.put o.dst v') w') : wpList Tryz.prog ops Q (o :: rest) a w := by
  obtain ⟨i0, hi, hz0, hz1, hz2⟩ := info_parts infoI64s
  refine wpList_append_own _ hgd s x 63 ho B 2 i0 (.int .i64 0) 1 8 Tryz.underlying63 hi hz0 hz1 hz2 rfl (by decide) v l.length (l.map i64V) hs hb ⟨b, 0, none⟩ 1 1 [i64V z] hx rfl (fun j u hu => ?_) (fun u hu => ?_) (by unfold maxLen; omega) (by omega) hB ?_
  · have hadd : (⟨b, 0, none⟩ : Addr).add j = ⟨b, j, none⟩ := by unfold Addr.add; split <;> simp_all
    rcases j with _ | j
    · rw [hadd, hm]; simpa using hu
    · simp at hu
  · simp at hu; subst hu; rfl
  · intro v' w' ho' hg _
    refine h v' w' ?_ hg
    rw [List.length_append, List.map_append]
    exact ho'
/-- A cell of a row of the call's own. -/
theorem own_cell {w : World} {B T n : Nat} {v : Value} {xs : List Value} (h : w.ownsRow B T 1 v n xs) (i : Nat) (u : Value) (hi : i < n) (hu : xs[i]? = some u) : ∃ b cap, v = .slice (some ⟨b, 0, none⟩) n cap ∧ n ≤ cap ∧ cap ≤ 9223372036854775807 ∧ b < w.heap.size ∧ w.cell? ⟨b, i, none⟩ = some u := by
  rcases h.2 with ⟨rfl, h0⟩ | ⟨g, cap, cur, rfl, hB, hg, hcap, hcm, _, ht⟩
  · omega
  · refine ⟨g, cap, rfl, hcap, by unfold maxLen at hcm; omega, (Array.getElem?_eq_some_iff.1 hg).1, ?_⟩
    rw [cell_of_row w g i cur _ _ hg, ← Array.getElem?_toList]
    rw [← ht, List.getElem?_take_of_lt (by omega)] at hu
    exact hu
theorem nS_ten (i : Nat) (hi : i < 1000) : (nS 10 i : Int) = 10 + (i : Int) := by unfold nS; omega
theorem told_ten (W i : Nat) (hW : W < 30) (hi : i < 30) : M.told (spreadL [(0, 64)]) (diffI (nS 10 W) (nS 10 i)) = if i ≤ W then 0 else 3 := by
  have hd : diffI (nS 10 W) (nS 10 i) = (W : Int) - (i : Int) := by unfold diffI nS; omega
  rw [hd]
  unfold M.told
  by_cases h : i ≤ W
  · rw [if_pos h, if_neg (by omega), show ((W : Int) - (i : Int)).toNat = W - i by omega]
    rw [show spreadL [((0 : Int), (64 : Int))] = List.replicate 64 0 from rfl, List.getD_eq_getElem?_getD, List.getElem?_replicate, if_pos (by omega)]
    rfl
  · rw [if_neg h, if_pos (by omega)]
/-- One cell that lies in a block. -/
theorem c2_one (a r : Int) (hr : -9223372036854775808 ≤ r ∧ r ≤ 9223372036854775807) (b T : Nat) (w : World) (h : BlkIs #[.int .i64 a, .int .i64 r] T b w) : C2At w (.slice (some ⟨b, 0, none⟩) 1 1) [(a, r)] := by
  refine ⟨⟨_, 1, rfl, Nat.le_refl _, by decide, fun i hi => ?_⟩, (by decide : (1 : Nat) ≤ 1073741824), fun i => ?_⟩
  · obtain rfl : i = 0 := by simpa using hi
    exact ⟨b, 0, rfl, h.lt, h.cell 0, h.cell 1⟩
  · rcases i with _ | i
    · exact hr
    · exact (by decide : -9223372036854775808 ≤ (0 : Int) ∧ (0 : Int) ≤ 9223372036854775807)
/-- The times, in a row. -/
def ats (L : List Rec) : List Int := L.map fun r => r.2.1
theorem ats_get (L : List Rec) (i : Nat) (hi : i < L.length) : ((ats L).map i64V)[i]? = some (.int .i64 (L.getD i (0, 0, 0)).2.1) := by
  unfold ats
  rw [List.map_map, List.getElem?_map, List.getElem?_eq_getElem hi, List.getD_eq_getElem?_getD, List.getElem?_eq_getElem hi]
  rfl
theorem ats_len (L : List Rec) : (ats L).length = L.length := by unfold ats; rw [List.length_map]
theorem rttHear1 {T : Int} {L : List Rec} (hI : SntI (nS 10) T L) (W : Nat) (hW : W < L.length) (hL : L.length ≤ 30) (now : Int) (hn : T ≤ now) (hn2 : now ≤ 4611686018427387904) (C g c b TT : Nat) (w : World) (h : RecsAt L C g c w) (hv : BlkIs #[.int .i64 0, .int .i64 64] TT b w) :
    Calls Tryz.prog 21 #[.pointer (some ⟨C, 0, none⟩), .int .u64 (10 + (W : Int)), .slice (some ⟨b, 0, none⟩) 1 1, .int .i64 now] w fun e w' => ∃ pG nG pL nL pX nX L1, e = .returned (.agg #[.slice pG (W + 1) nG, .slice pL 0 nL, .slice pX 0 nX, .int .i64 0, .int .i64 (now - (L.getD W (0, 0, 0)).2.1)]) ∧ RecsAt L1 C g c w' ∧ Kept [g] w w' ∧ GotI W L L1 := by
  rw [← nS_ten W (by omega)]
  exact hearFirst hI W hW (by omega) (fun j => by have := nS_lt 10 j; omega) (nS 10 W) (by have := nS_lt 10 W; omega) now hn hn2 [(0, 64)] (by decide) (fun i hi => told_ten W i (by omega) (by omega)) C g c _ w h (c2_one 0 64 (by decide) b TT w hv)
theorem rttHear2 {T : Int} {L L1 : List Rec} (hI : SntI (nS 10) T L) (W : Nat) (hG : GotI W L L1) (hW : W < L.length) (hL : L.length ≤ 30) (now : Int) (hn : T ≤ now) (hn2 : now ≤ 4611686018427387904) (C g c b TT : Nat) (w : World) (h : RecsAt L1 C g c w) (hv : BlkIs #[.int .i64 0, .int .i64 64] TT b w) :
    Calls Tryz.prog 21 #[.pointer (some ⟨C, 0, none⟩), .int .u64 (10 + (W : Int)), .slice (some ⟨b, 0, none⟩) 1 1, .int .i64 now] w fun e w' => ∃ pG nG pL nL pX nX, e = .returned (.agg #[.slice pG 0 nG, .slice pL 0 nL, .slice pX 0 nX, .int .i64 0, .int .i64 (-1)]) ∧ RecsAt L1 C g c w' ∧ Kept [g] w w' := by
  have hl := hG.len
  rw [← nS_ten W (by omega)]
  refine hearNone (by omega) (by omega) (fun i hi => ?_) (nS 10 W) (by have := nS_lt 10 W; omega) now hn2 (fun i hi => ?_) [(0, 64)] (by decide) (fun i hi => ?_) (lose_first W hI hG) C g c _ w h (c2_one 0 64 (by decide) b TT w hv)
  · rw [hG.get i (by omega)]
    have h1 := hI.num i (by omega)
    have h2 := nS_lt 10 i
    split
    · simp only; omega
    · omega
  · rw [hG.get i (by omega)]
    have h1 := hI.time i (by omega)
    have h2 := hI.out i (by omega)
    split
    · exact ⟨h1.1, by simp only; omega, .inr (.inl rfl)⟩
    · exact ⟨h1.1, by omega, .inl h2⟩
  · rw [hG.get i (by omega)]
    have h1 := hI.num i (by omega)
    by_cases h3 : i ≤ W
    · rw [if_pos h3]; exact .inr rfl
    · rw [if_neg h3, h1]
      left
      rw [told_ten W i (by omega) (by omega), if_neg h3]
set_option maxHeartbeats 8000000 in
set_option maxRecDepth 100000 in
theorem sentRtt_walk (p0 : Option Addr) (m0 c0 : Nat) (l0 : List Int) (h0 : m0 ≤ c0) (h0c : c0 ≤ 9223372036854775807) (wh la : Int) (wh1 : -9223372036854775808 ≤ wh) (wh2 : wh ≤ 9223372036854775807) (w : World) (hT : TabW w)
    (hc0 : ∀ i, i < m0 → ∃ b o, p0 = some ⟨b, o, none⟩ ∧ b < w.heap.size ∧ w.cell? ⟨b, o + i, none⟩ = some (.int .i64 (l0.getD i 0))) :
    Calls Tryz.prog 10 #[.slice p0 m0 c0, .int .i64 wh, .int .i64 la] w fun e w' => e = .returned (.bool true) ∧ Below w.heap.size w w' := by
  have HBG : Hid (Calls Tryz.prog 13 #[] w fun e w' => e = .returned (.bool true) ∧ Below w.heap.size w w') := Lib.hid (begun8_any w hT)
  have HC0 := Lib.hid hc0
  clear hT hc0
  obtain ⟨B, hB⟩ : ∃ B, w.heap.size = B := ⟨_, rfl⟩
  have HBe := Lib.hid hB
  go_enter Tryz.func10, Tryz.ntmps10
  go_upto_region 7 with (first
    | (go_at_call 13; (with_reducible refine HBG.out.mono ?_); rintro e w0 ⟨rfl, hb0⟩)
    | (go_at_call 19; (with_reducible refine (sentNew_any _).mono ?_); rintro e w1 ⟨C, rfl, hg1, hc1, hb1⟩))
  have HI0 : Hid (SntW (nS 10) 0 [] C B (.slice none 0 0) w w1) := Lib.hid (SntW.start _ C B w w1 hg1 (by rw [← hB]; exact bel_trans hb0 hb1) ⟨by rw [← hB]; exact Nat.le_trans hb0.size hc1, hB⟩)
  clear hb0 hg1 hc1 hb1 hB
  go_wp2
  go_loopw [9, 10, 11] (fun nw av iv wr => ∃ (i T : Nat) (L : List Rec) (v : Value), iv = .int .i64 (i : Int) ∧ nw = .int .i64 (T : Int) ∧ i ≤ 30 ∧ T ≤ 1000 * i ∧ Hid (L.length = i) ∧ Hid (SntW (nS 10) T L C B v w wr) ∧ Hid (wr.ownsRow B 2 1 av (ats L).length ((ats L).map i64V))) (fun _ _ iv _ => 30 - (intOf iv).toNat)
  case atStart => exact ⟨0, 0, [], _, rfl, rfl, by omega, by omega, Lib.hid rfl, HI0, Lib.hid (World.ownsRow_nil _ _ _ _)⟩
  case round =>
    clear HI0
    obtain ⟨i, T, L, v, rfl, rfl, hi, hT, hL, hI, hat⟩ := hrel
    have hneC : ∀ q, u10.ownBlock = some q → q ∉ C :: own v := fun q hq hm => by
      rcases List.mem_cons.1 hm with e | e
      · subst e
        exact own_blk hat.out hI.out.at_.blk (by decide) hq
      · cases hv : v.ownBlock with
        | none => rw [own, hv] at e; cases e
        | some x =>
          rw [own, hv] at e
          simp at e
          subst e
          exact own_apart hat.out hI.out.at_.row (by decide) q hq hv
    by_cases hin : i < m0 ∧ i < 30
    · obtain ⟨j0, j2⟩ := hin
      have d0 : decide ((i : Int) < (m0 : Int)) = true := decide_eq_true (by omega)
      have d2 : decide ((i : Int) < 30) = true := decide_eq_true (by omega)
      obtain ⟨b0, o0, rfl, q0, x0⟩ := HC0.out i j0
      have y0 : wr.cell? ⟨b0, o0 + i, none⟩ = some (.int .i64 (l0.getD i 0)) := (hI.out.below.cell (p := ⟨b0, o0 + i, none⟩) (by rw [← HBe.out]; exact q0)).trans x0
      obtain ⟨a0, e0, e01, e02, N0, e03, e04⟩ := mod_at (l0.getD i 0) 1000 (by decide)
      generalize l0.getD i 0 = z0 at *
      obtain ⟨T2, hT2⟩ : ∃ T2 : Nat, (T : Int) + (N0 : Int) = (T2 : Int) := ⟨T + N0, by omega⟩
      have HP : Hid (Calls Tryz.prog 20 #[.pointer (some ⟨C, 0, none⟩), .int .u64 (10 + (i : Int)), .int .i64 (T2 : Int)] wr fun e w' => e = .returned (.bool true) ∧ ∃ v', SntW (nS 10) T2 (L ++ [(nS 10 L.length, (T2 : Int), 0)]) C B v' w w' ∧ (∃ g c, v' = .slice (some ⟨g, 0, none⟩) (L.length + 1) c) ∧ Kept (C :: own v) wr w') := Lib.hid (by
        have h1 := hI.out.put (T2 := (T2 : Int)) (nS_lt 10) (nS_next 10) (by rw [hL.out]; omega) (by omega) (by omega) (by omega)
        rw [hL.out, nS_ten i (by omega)] at h1
        rw [hL.out]
        exact h1)
      have hBr : B ≤ wr.heap.size := by have := hI.out.below.size; have := HBe.out; omega
      have HAT := Lib.hid hat.out
      have HNC := Lib.hid hneC
      clear x0 q0 hat hneC
      go_upto_region 12 with (go_at_call 20; (with_reducible refine HP.out.mono ?_); rintro e w3 ⟨rfl, v3, hI3, _, hk3⟩)
      have HAT3 : Hid (w3.ownsRow B 2 1 u10 (ats L).length ((ats L).map i64V)) := Lib.hid (ownsRow_keptC HAT.out hk3 HNC.out)
      have HAT4 : Hid ((w3.alloc (.cells #[.int .i64 (T2 : Int)] 2)).ownsRow B 2 1 u10 (ats L).length ((ats L).map i64V)) := Lib.hid (HAT3.out.alloc _)
      have hB3 : B ≤ (w3.alloc (.cells #[.int .i64 (T2 : Int)] 2)).heap.size := by have := hk3.size; rw [World.size_alloc]; omega
      have HCL : Hid ((w3.alloc (.cells #[.int .i64 (T2 : Int)] 2)).cell? ⟨w3.heap.size, 0, none⟩ = some (i64V T2)) := Lib.hid ((BlkIs.new #[.int .i64 (T2 : Int)] 2 w3).cell 0)
      have HI3 := Lib.hid hI3
      have HLL : Hid ((ats L).length ≤ 1073741824) := Lib.hid (by rw [ats_len, hL.out]; omega)
      clear hk3 hI3 HP hI HAT HNC y0 e0 e03
      go_upto_region 9 with (at_builtin; refine wp_q64 rfl _ _ rfl B u10 (ats L) T2 rfl _ HAT4.out hB3 _ rfl HCL.out HLL.out ?_; intro v9 w9 ho9 hg9)
      have kk : Kept (own u10) w3 w9 := ((Kept.refl _ _).alloc _).grown hg9 (fun q hq => .inl (by simp [own, hq]))
      have hI9 : SntW (nS 10) T2 (L ++ [(nS 10 L.length, (T2 : Int), 0)]) C B v3 w w9 := HI3.out.kept kk (fun hm => by
        cases hv : u10.ownBlock with
        | none => rw [own, hv] at hm; cases hm
        | some x =>
          rw [own, hv] at hm
          simp at hm
          subst hm
          exact own_blk HAT3.out HI3.out.at_.blk (by decide) hv) (fun q hq hm => by
        cases hv : u10.ownBlock with
        | none => rw [own, hv] at hm; cases hm
        | some x =>
          rw [own, hv] at hm
          simp at hm
          subst hm
          exact own_apart HAT3.out HI3.out.at_.row (by decide) q hv hq) (fun x hm => by
        cases hv : u10.ownBlock with
        | none => rw [own, hv] at hm; cases hm
        | some y =>
          rw [own, hv] at hm
          simp at hm
          subst hm
          exact (HAT3.out.lt x hv).1)
      have ha9 : ats (L ++ [(nS 10 L.length, (T2 : Int), 0)]) = ats L ++ [(T2 : Int)] := by unfold ats; rw [List.map_append]; rfl
      go_wp2
      refine ⟨⟨i + 1, T2, _, v3, by go_num, rfl, by omega, by omega, Lib.hid (by rw [List.length_append, hL.out]; rfl), Lib.hid hI9, Lib.hid (by rw [ha9]; exact ho9)⟩, ?_⟩
      simp [intOf]; omega
    · have hor : ¬ i < m0 ∨ (i < m0 ∧ ¬ i < 30) := by omega
      clear hin
      by_cases hz : i = 0
      · subst hz
        have hLn : L = [] := List.length_eq_zero_iff.1 hL.out
        subst hLn
        obtain ⟨pa, ca, hpa⟩ := own_shape hat.out
        have hvn := hI.out.nil rfl
        have HO : Hid (Calls Tryz.prog 22 #[.pointer (some ⟨C, 0, none⟩)] wr fun e w' => e = .returned (.int .i64 0) ∧ Below wr.heap.size wr w') := Lib.hid (sentOut_none C wr (by have h1 := hI.out.at_; rw [hvn] at h1; exact h1))
        have HBW := Lib.hid hI.out.below
        have hpa2 : u10 = .slice pa 0 ca := hpa
        have hbe := HBe.out
        subst hpa2
        clear hat hI hneC
        have d0 : decide (((0 : Nat) : Int) < (m0 : Int)) = false := decide_eq_false (by omega)
        have d1 : ¬ 0 < m0 := by omega
        go_wp2_with (go_at_call 22; (with_reducible refine HO.out.mono ?_); rintro e w3 ⟨rfl, hb3⟩)
        go_ret
        subst hbe
        exact ⟨rfl, bel_trans HBW.out hb3⟩
      · obtain ⟨a5, f5, _, _, W, f6, f7⟩ := mod_at wh (i : Int) (by omega)
        have hWi : W < i := by omega
        obtain ⟨b, cap, hpa, hcap1, hcap2, hblt, hcell⟩ := own_cell hat.out W (.int .i64 (L.getD W (0, 0, 0)).2.1) (by rw [ats_len, hL.out]; omega) (ats_get L W (by rw [hL.out]; omega))
        obtain ⟨g, c, ev, _⟩ := hI.out.at_.row.shape (by rw [hL.out]; omega)
        have hr0 := hI.out.at_
        have hbg : b ≠ g := fun e => own_apart hat.out hI.out.at_.row (by decide) b (by rw [hpa]; rfl) (by rw [ev, e]; rfl)
        have hgB := hI.out.blk g (by rw [ev]; rfl)
        rw [ev] at hr0
        have hr := hr0.recs (by rw [hL.out]; omega)
        rw [ats_len, hL.out] at hpa hcap1
        have htW := hI.out.inv.time W (by rw [hL.out]; omega)
        have HIV := Lib.hid hI.out.inv
        have HBW := Lib.hid hI.out.below
        have HGB := Lib.hid (show B ≤ g ∧ B ≤ C from ⟨hgB, hI.out.size.1⟩)
        have HTD : Hid (L.length ≤ 30) := Lib.hid (by rw [hL.out]; omega)
        have HWL : Hid (W < L.length) := Lib.hid (by rw [hL.out]; omega)
        obtain ⟨tW, htw⟩ : ∃ tW, (L.getD W (0, 0, 0)).2.1 = tW := ⟨_, rfl⟩
        rw [htw] at hcell htW
        have HTW := Lib.hid htw
        obtain ⟨E, hE⟩ : ∃ E, min la 1099511627776 = E := ⟨_, rfl⟩
        obtain ⟨r1, r2, r3, r4, r5⟩ := mni la 1099511627776 E hE
        obtain ⟨X, hX⟩ : ∃ X : Nat, max 0 E = (X : Int) := ⟨(max 0 E).toNat, by omega⟩
        obtain ⟨s1, s2, s3, s4, s5⟩ := mxi 0 E (X : Int) hX
        obtain ⟨Y, hY⟩ : ∃ Y : Nat, (T : Int) + (X : Int) = (Y : Int) := ⟨T + X, by omega⟩
        have hYT : (T : Int) ≤ (Y : Int) ∧ (Y : Int) ≤ 4611686018427387904 := by omega
        obtain ⟨hY1, hY2⟩ := hYT
        obtain ⟨D, hD⟩ : ∃ D, (Y : Int) - tW = D := ⟨_, rfl⟩
        have hD1 : 0 ≤ D ∧ D ≤ 4611686018427387904 := by omega
        obtain ⟨hD2, hD3⟩ := hD1
        obtain ⟨V, hV⟩ : ∃ V, W + 1 = V := ⟨_, rfl⟩
        have hV1 : (W : Int) + 1 = (V : Int) := by omega
        have hVV : ((V : Int) == (V : Int)) = true := by simp
        obtain ⟨A, hA⟩ : ∃ A, wr.heap.size = A := ⟨_, rfl⟩
        have kA : BlkIs #[.int .i64 0, .int .i64 64] 38 A (wr.alloc (.cells #[.int .i64 0, .int .i64 64] 38)) := by rw [← hA]; exact BlkIs.new _ _ _
        have HH1 : Hid (Calls Tryz.prog 21 #[.pointer (some ⟨C, 0, none⟩), .int .u64 (10 + (W : Int)), .slice (some ⟨A, 0, none⟩) 1 1, .int .i64 (Y : Int)] (wr.alloc (.cells #[.int .i64 0, .int .i64 64] 38)) fun e w' => ∃ pG nG pL nL pX nX L1, e = .returned (.agg #[.slice pG V nG, .slice pL 0 nL, .slice pX 0 nX, .int .i64 0, .int .i64 D]) ∧ RecsAt L1 C g c w' ∧ Kept [g] (wr.alloc (.cells #[.int .i64 0, .int .i64 64] 38)) w' ∧ GotI W L L1) := Lib.hid (by
          have h1 := rttHear1 HIV.out W HWL.out HTD.out (Y : Int) hY1 hY2 C g c A _ _ (hr.below (bel_alloc wr _)) kA
          rw [HTW.out, hD, hV] at h1
          exact h1)
        have HCELL := Lib.hid hcell
        have HBB : Hid (b < A ∧ b ≠ g ∧ g < A) := Lib.hid ⟨by rw [← hA]; exact hblt, hbg, by rw [← hA]; exact hr.lt⟩
        have hi0 : ¬ i = 0 := hz
        have hib : ((i : Int) == 0) = false := by rw [beq_eq_false_iff_ne]; omega
        obtain ⟨t0, t1⟩ := htW
        have HKA : Hid (Kept [] wr (wr.alloc (.cells #[.int .i64 0, .int .i64 64] 38)) ∧ A = wr.heap.size) := Lib.hid ⟨(Kept.refl _ _).alloc _, hA.symm⟩
        clear hV
        clear hat hI hneC ev hr0 hgB hr hcell hblt hbg kA HTW htw hE hX hz
        subst hpa
        rcases hor with g0 | ⟨g0, g1⟩
        · have d0 : decide ((i : Int) < (m0 : Int)) = false := decide_eq_false (by omega)
          go_upto_region 18 with (go_at_call 21; (with_reducible refine HH1.out.mono ?_); rintro e w3 ⟨pG, nG, pL, nL, pX, nX, L1, rfl, hr3, hk3, hG3⟩)
          have kB := BlkIs.new #[.slice pG V nG, .slice pL 0 nL, .slice pX 0 nX, .int .i64 0, .int .i64 D] 41 w3
          have kk4 : Kept [g] wr (w3.alloc (.cells #[.slice pG V nG, .slice pL 0 nL, .slice pX 0 nX, .int .i64 0, .int .i64 D] 41)) := ((HKA.out.1.more (by simp)).trans' hk3).alloc _
          have hr4 := hr3.below (bel_alloc w3 (.cells #[.slice pG V nG, .slice pL 0 nL, .slice pX 0 nX, .int .i64 0, .int .i64 D] 41))
          clear hr3 hk3 HH1
          generalize w3.alloc (.cells #[.slice pG V nG, .slice pL 0 nL, .slice pX 0 nX, .int .i64 0, .int .i64 D] 41) = w4 at *
          generalize w3.heap.size = X4 at *
          obtain ⟨A4, hA4⟩ : ∃ A4, w4.heap.size = A4 := ⟨_, rfl⟩
          have kA : BlkIs #[.int .i64 0, .int .i64 64] 38 A4 (w4.alloc (.cells #[.int .i64 0, .int .i64 64] 38)) := by rw [← hA4]; exact BlkIs.new _ _ _
          have HH2 : Hid (Calls Tryz.prog 21 #[.pointer (some ⟨C, 0, none⟩), .int .u64 (10 + (W : Int)), .slice (some ⟨A4, 0, none⟩) 1 1, .int .i64 (Y : Int)] (w4.alloc (.cells #[.int .i64 0, .int .i64 64] 38)) fun e w' => ∃ pG nG pL nL pX nX, e = .returned (.agg #[.slice pG 0 nG, .slice pL 0 nL, .slice pX 0 nX, .int .i64 0, .int .i64 (-1)]) ∧ RecsAt L1 C g c w' ∧ Kept [g] (w4.alloc (.cells #[.int .i64 0, .int .i64 64] 38)) w') := Lib.hid (rttHear2 HIV.out W hG3 HWL.out HTD.out (Y : Int) hY1 hY2 C g c A4 _ _ (hr4.below (bel_alloc w4 _)) kA)
          have HKB := Lib.hid kB
          have HK4 := Lib.hid kk4
          have HGX : Hid (g ≠ X4) := Lib.hid (fun e => by
            have h1 := hr4.row
            have h2 := kB
            have h3 := hr4.lt
            subst e
            have h5 := HBB.out.2.2
            have h6 := hG3.len
            obtain ⟨rr, hrr⟩ : ∃ rr, L1[0]? = some rr := ⟨_, List.getElem?_eq_getElem (by have := HWL.out; omega)⟩
            have h7 := (h1 0 rr hrr).1
            rw [show (0 : Nat) * 3 = 0 from rfl, h2.cell 0] at h7
            simp at h7)
          clear kB kk4 hr4 kA hG3
          go_upto_region 19 with (go_at_call 21; (with_reducible refine HH2.out.mono ?_); rintro e w5 ⟨qG, oG, qL, oL, qX, oX, rfl, hr5, hk5⟩)
          have kC := BlkIs.new #[.slice qG 0 oG, .slice qL 0 oL, .slice qX 0 oX, .int .i64 0, .int .i64 (-1)] 41 w5
          have kk6 : Kept [g] w4 (w5.alloc (.cells #[.slice qG 0 oG, .slice qL 0 oL, .slice qX 0 oX, .int .i64 0, .int .i64 (-1)] 41)) := ((((Kept.refl [g] w4).alloc _).trans' hk5)).alloc _
          have kB6 := HKB.out.kept kk6 (by simp; exact fun e => HGX.out e.symm)
          have kw6 : Kept [g] wr (w5.alloc (.cells #[.slice qG 0 oG, .slice qL 0 oL, .slice qX 0 oX, .int .i64 0, .int .i64 (-1)] 41)) := HK4.out.trans' kk6
          clear kk6 hr5 hk5 HH2
          generalize w5.alloc (.cells #[.slice qG 0 oG, .slice qL 0 oL, .slice qX 0 oX, .int .i64 0, .int .i64 (-1)] 41) = w6 at *
          generalize w5.heap.size = X6 at *
          have y0 : w6.cell? ⟨X4, 0, none⟩ = some (.slice pG V nG) := BlkIs.cell kB6 0
          have y4 : w6.cell? ⟨X4, 4, none⟩ = some (.int .i64 D) := BlkIs.cell kB6 4
          have z0 : w6.cell? ⟨X6, 0, none⟩ = some (.slice qG 0 oG) := BlkIs.cell kC 0
          have z4 : w6.cell? ⟨X6, 4, none⟩ = some (.int .i64 (-1)) := BlkIs.cell kC 4
          have x0 : w6.cell? ⟨b, W, none⟩ = some (.int .i64 tW) := (kw6.cell (p := ⟨b, W, none⟩) (by have := HBB.out.1; have := HKA.out.2; show b < _; omega) (by have := HBB.out.2.1; simp; omega)).trans HCELL.out
          have HB6 : Hid (Below B w w6) := Lib.hid (HBW.out.trans (kw6.below (by have := HBW.out.size; have := HBe.out; omega) (by intro x hx; have := HGB.out.1; simp at hx; omega)))
          have hw5 : IntKind.i64.wrap D = D := by rw [IntKind.wrap_i64]; omega
          have hDD : (D == D) = true := by simp
          clear kB6 kw6 kC HKB HK4
          go_quiet (fail)
          go_wp2
          go_ret
          have hbe := HBe.out
          subst hbe
          exact ⟨by simp, bel_trans HB6.out (bel_drewN _ _)⟩
        · have d0 : decide ((i : Int) < (m0 : Int)) = true := decide_eq_true (by omega)
          have d1 : decide ((i : Int) < 30) = false := decide_eq_false (by omega)
          go_upto_region 18 with (go_at_call 21; (with_reducible refine HH1.out.mono ?_); rintro e w3 ⟨pG, nG, pL, nL, pX, nX, L1, rfl, hr3, hk3, hG3⟩)
          have kB := BlkIs.new #[.slice pG V nG, .slice pL 0 nL, .slice pX 0 nX, .int .i64 0, .int .i64 D] 41 w3
          have kk4 : Kept [g] wr (w3.alloc (.cells #[.slice pG V nG, .slice pL 0 nL, .slice pX 0 nX, .int .i64 0, .int .i64 D] 41)) := ((HKA.out.1.more (by simp)).trans' hk3).alloc _
          have hr4 := hr3.below (bel_alloc w3 (.cells #[.slice pG V nG, .slice pL 0 nL, .slice pX 0 nX, .int .i64 0, .int .i64 D] 41))
          clear hr3 hk3 HH1
          generalize w3.alloc (.cells #[.slice pG V nG, .slice pL 0 nL, .slice pX 0 nX, .int .i64 0, .int .i64 D] 41) = w4 at *
          generalize w3.heap.size = X4 at *
          obtain ⟨A4, hA4⟩ : ∃ A4, w4.heap.size = A4 := ⟨_, rfl⟩
          have kA : BlkIs #[.int .i64 0, .int .i64 64] 38 A4 (w4.alloc (.cells #[.int .i64 0, .int .i64 64] 38)) := by rw [← hA4]; exact BlkIs.new _ _ _
          have HH2 : Hid (Calls Tryz.prog 21 #[.pointer (some ⟨C, 0, none⟩), .int .u64 (10 + (W : Int)), .slice (some ⟨A4, 0, none⟩) 1 1, .int .i64 (Y : Int)] (w4.alloc (.cells #[.int .i64 0, .int .i64 64] 38)) fun e w' => ∃ pG nG pL nL pX nX, e = .returned (.agg #[.slice pG 0 nG, .slice pL 0 nL, .slice pX 0 nX, .int .i64 0, .int .i64 (-1)]) ∧ RecsAt L1 C g c w' ∧ Kept [g] (w4.alloc (.cells #[.int .i64 0, .int .i64 64] 38)) w') := Lib.hid (rttHear2 HIV.out W hG3 HWL.out HTD.out (Y : Int) hY1 hY2 C g c A4 _ _ (hr4.below (bel_alloc w4 _)) kA)
          have HKB := Lib.hid kB
          have HK4 := Lib.hid kk4
          have HGX : Hid (g ≠ X4) := Lib.hid (fun e => by
            have h1 := hr4.row
            have h2 := kB
            have h3 := hr4.lt
            subst e
            have h5 := HBB.out.2.2
            have h6 := hG3.len
            obtain ⟨rr, hrr⟩ : ∃ rr, L1[0]? = some rr := ⟨_, List.getElem?_eq_getElem (by have := HWL.out; omega)⟩
            have h7 := (h1 0 rr hrr).1
            rw [show (0 : Nat) * 3 = 0 from rfl, h2.cell 0] at h7
            simp at h7)
          clear kB kk4 hr4 kA hG3
          go_upto_region 19 with (go_at_call 21; (with_reducible refine HH2.out.mono ?_); rintro e w5 ⟨qG, oG, qL, oL, qX, oX, rfl, hr5, hk5⟩)
          have kC := BlkIs.new #[.slice qG 0 oG, .slice qL 0 oL, .slice qX 0 oX, .int .i64 0, .int .i64 (-1)] 41 w5
          have kk6 : Kept [g] w4 (w5.alloc (.cells #[.slice qG 0 oG, .slice qL 0 oL, .slice qX 0 oX, .int .i64 0, .int .i64 (-1)] 41)) := ((((Kept.refl [g] w4).alloc _).trans' hk5)).alloc _
          have kB6 := HKB.out.kept kk6 (by simp; exact fun e => HGX.out e.symm)
          have kw6 : Kept [g] wr (w5.alloc (.cells #[.slice qG 0 oG, .slice qL 0 oL, .slice qX 0 oX, .int .i64 0, .int .i64 (-1)] 41)) := HK4.out.trans' kk6
          clear kk6 hr5 hk5 HH2
          generalize w5.alloc (.cells #[.slice qG 0 oG, .slice qL 0 oL, .slice qX 0 oX, .int .i64 0, .int .i64 (-1)] 41) = w6 at *
          generalize w5.heap.size = X6 at *
          have y0 : w6.cell? ⟨X4, 0, none⟩ = some (.slice pG V nG) := BlkIs.cell kB6 0
          have y4 : w6.cell? ⟨X4, 4, none⟩ = some (.int .i64 D) := BlkIs.cell kB6 4
          have z0 : w6.cell? ⟨X6, 0, none⟩ = some (.slice qG 0 oG) := BlkIs.cell kC 0
          have z4 : w6.cell? ⟨X6, 4, none⟩ = some (.int .i64 (-1)) := BlkIs.cell kC 4
          have x0 : w6.cell? ⟨b, W, none⟩ = some (.int .i64 tW) := (kw6.cell (p := ⟨b, W, none⟩) (by have := HBB.out.1; have := HKA.out.2; show b < _; omega) (by have := HBB.out.2.1; simp; omega)).trans HCELL.out
          have HB6 : Hid (Below B w w6) := Lib.hid (HBW.out.trans (kw6.below (by have := HBW.out.size; have := HBe.out; omega) (by intro x hx; have := HGB.out.1; simp at hx; omega)))
          have hw5 : IntKind.i64.wrap D = D := by rw [IntKind.wrap_i64]; omega
          have hDD : (D == D) = true := by simp
          clear kB6 kw6 kC HKB HK4
          go_quiet (fail)
          go_wp2
          go_ret
          have hbe := HBe.out
          subst hbe
          exact ⟨by simp, bel_trans HB6.out (bel_drewN _ _)⟩
end Go.Proofs.YtkpginmdnlhfbaaGreatDoor
