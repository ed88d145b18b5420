/-
  What the laid table of the weights says.
  Rows of numbers, and of pairs of numbers, that came in as arguments, opened.
  The law WinFire, walked.
  The law WinSlow, walked.
-/
import Derived.Test.YtjbgbdiogfdokaaGreatDoorIvalA
import Derived.Test.YtjbgbdiogfdokaaGreatDoorRows
import Derived.Lib.LaidU8
import Derived.Lib.LaidTab
import Derived.MakeChecks
import Derived.OpenShut
import Derived.Test.YtjbgbdiogfdokaaGreatDoorIntR
import Derived.Test.YtjbgbdiogfdokaaGreatDoorVecB
import Derived.ChangeSlices
import Derived.ChangeSame
import Derived.Deep.Slices
import Derived.Deep.SlicePairs
import Derived.Test.YtjbgbdiogfdokaaGreatDoorLfW1
import Derived.Test.YtjbgbdiogfdokaaGreatDoorBegun8
import Derived.Test.YtjbgbdiogfdokaaGreatDoorLfHd
namespace Go.Proofs.YtjbgbdiogfdokaaGreatDoor
open Go.ChangeShapes Go.WideShapes Go.ChangeAt Go.RowKit
set_option linter.unusedVariables false
set_option linter.unusedSimpArgs false

theorem tabW_laid {W : World} {l : List (String × DataW Unit)} (h : laidMet Tryz.prog l W) (hm : ("muleteer/ival.weights", (Rows.laid_muleteer_ival_weights : DataW Unit)) ∈ l) : TabW W := by
  obtain ⟨ps, h, _⟩ := h
  obtain ⟨g, t, cs, fuel, p, hg, ht, hvar, hd⟩ := Lib.LaidVars_reads h _ _ hm
  rw [show (Rows.laid_muleteer_ival_weights : DataW Unit) = Lib.tabData .u64 [5, 5, 5, 5, 4, 3, 2, 1] by kernel_rfl] at hd
  have e : Tryz.prog.globalNamed "muleteer/ival.weights" = some 2 := by kernel_rfl
  obtain rfl := Option.some.inj (e.symm.trans hg)
  obtain rfl : t = 209 := (Option.some.inj ((show (Tryz.prog.globals[2]?).map (·.type) = some 209 by kernel_rfl).symm.trans ht)).symm
  have hc := Lib.cells_of_tab Tryz.underlying209 Tryz.underlying26 (by kernel_rfl) (by kernel_rfl) hd
  obtain ⟨cl⟩ := cs
  simp only at hc
  subst hc
  intro i hi
  have h1 := World.var?_cell e hvar i
  rw [h1]
  obtain rfl | rfl | rfl | rfl | rfl | rfl | rfl | rfl : i = 0 ∨ i = 1 ∨ i = 2 ∨ i = 3 ∨ i = 4 ∨ i = 5 ∨ i = 6 ∨ i = 7 := by omega
  all_goals rfl
end Go.Proofs.YtjbgbdiogfdokaaGreatDoor

namespace Go.Proofs.YtjbgbdiogfdokaaGreatDoor
open Go.ChangeShapes Go.WideShapes Go.Deep Go.RowKit
set_option linter.unusedVariables false

theorem addr_plain {w : World} {a : Addr} {v : Value} (h : w.cell? (a.add 0) = some v) : ∃ b o, a = ⟨b, o, none⟩ ∧ b < w.heap.size := by
  have e : a.add 0 = a := by unfold Addr.add; split <;> simp_all
  rw [e] at h
  have hs : a.spot = none := by
    unfold World.cell? at h
    split at h
    · cases hsp : a.spot with
      | none => rfl
      | some x => rw [hsp] at h; simp at h
    · cases h
  have hb := World.block_lt_of_cell? w a h
  obtain ⟨b, o, sp⟩ := a
  simp only at hs
  subst hs
  exact ⟨b, o, rfl, hb⟩
theorem add_plain (b o k : Nat) : (⟨b, o, none⟩ : Addr).add k = ⟨b, o + k, none⟩ := by unfold Addr.add; split <;> simp_all

theorem open_row {H : Type} {enc : TypeId × Value → H} {W : World} {t e : TypeId} {k : IntKind} {p : Option Addr} {n c : Nat} {d : DataW H} {q : List MemPlace}
    (ht : Tryz.prog.underlying t = some (.slice e)) (he : Tryz.prog.underlying e = some (.int k)) (hc : Tryz.prog.cellsOf e = 1)
    (h : DataW.Trod enc Tryz.prog W 0 (fun _ => true) true t (.slice p n c) d q) :
    n ≤ c ∧ c ≤ 9223372036854775807 ∧ ∃ zs : List Int, n ≤ zs.length ∧ (∀ z ∈ zs, (Lit.int k z).wf = true) ∧ ∀ i, i < n → ∃ b o, p = some ⟨b, o, none⟩ ∧ b < W.heap.size ∧ W.cell? ⟨b, o + i, none⟩ = some (.int k (zs.getD i 0)) := by
  obtain ⟨fuel, hf⟩ := h
  rcases open_ints ht he hc hf with ⟨hcs, hx⟩ | ⟨a, len', cap', zs, hcs, _, hl, hm, hz, hx, hcell, hwz⟩
  · simp [Value.cells] at hcs
    obtain ⟨rfl, rfl, rfl⟩ := hcs
    exact ⟨by omega, by omega, [], by simp, by simp, fun i hi => absurd hi (Nat.not_lt_zero i)⟩
  · simp [Value.cells] at hcs
    obtain ⟨rfl, rfl, rfl⟩ := hcs
    simp only [if_true] at hz
    have hm' : c ≤ 9223372036854775807 := hm
    refine ⟨hl, hm', zs, by omega, hwz, fun i hi => ?_⟩
    obtain ⟨b, o, rfl, hb⟩ := addr_plain (hcell 0 (by omega))
    have h1 := hcell i (by omega)
    rw [add_plain] at h1
    exact ⟨b, o, rfl, hb, h1⟩

theorem getD_take_lt {α : Type} (l : List α) (d : α) (m i : Nat) (h : i < m) : (l.take m).getD i d = l.getD i d := by
  rw [List.getD_eq_getElem?_getD, List.getD_eq_getElem?_getD, List.getElem?_take, if_pos h]
theorem getD_prop {α : Type} {P : α → Prop} {l : List α} {d : α} (h : ∀ z ∈ l, P z) (hd : P d) (i : Nat) : P (l.getD i d) := by
  rw [List.getD_eq_getElem?_getD]
  by_cases hi : i < l.length
  · rw [List.getElem?_eq_getElem hi]; exact h _ (List.getElem_mem _)
  · rw [List.getElem?_eq_none (by omega)]; exact hd

/-- Its first m numbers, signed. -/
theorem open_i64s {H : Type} {enc : TypeId × Value → H} {W : World} {t e : TypeId} {p : Option Addr} {n c : Nat} {d : DataW H} {q : List MemPlace} (m : Nat) (hm : m ≤ 1073741824)
    (ht : Tryz.prog.underlying t = some (.slice e)) (he : Tryz.prog.underlying e = some (.int .i64)) (hc : Tryz.prog.cellsOf e = 1)
    (h : DataW.Trod enc Tryz.prog W 0 (fun _ => true) true t (.slice p n c) d q) :
    n ≤ c ∧ c ≤ 9223372036854775807 ∧ ∃ l : List Int, l.length = min n m ∧ I64At W (.slice p l.length c) l := by
  obtain ⟨h1, h2, zs, h3, h4, h5⟩ := open_row ht he hc h
  have hl : (zs.take (min n m)).length = min n m := by rw [List.length_take]; omega
  refine ⟨h1, h2, zs.take (min n m), hl, ⟨p, c, rfl, by omega, h2, fun i hi => ?_⟩, by omega, fun i => ?_⟩
  · rw [getD_take_lt _ _ _ _ (by omega)]
    exact h5 i (by omega)
  · exact getD_prop (P := fun z => -9223372036854775808 ≤ z ∧ z ≤ 9223372036854775807) (fun z hz => bounds_i64 (h4 z (List.mem_of_mem_take hz))) (by decide) i
/-- All its numbers, signed. -/
theorem open_i64w {H : Type} {enc : TypeId × Value → H} {W : World} {t e : TypeId} {p : Option Addr} {n c : Nat} {d : DataW H} {q : List MemPlace}
    (ht : Tryz.prog.underlying t = some (.slice e)) (he : Tryz.prog.underlying e = some (.int .i64)) (hc : Tryz.prog.cellsOf e = 1)
    (h : DataW.Trod enc Tryz.prog W 0 (fun _ => true) true t (.slice p n c) d q) :
    n ≤ c ∧ c ≤ 9223372036854775807 ∧ ∃ l : List Int, l.length = n ∧ ∀ i, i < l.length → ∃ b o, p = some ⟨b, o, none⟩ ∧ b < W.heap.size ∧ W.cell? ⟨b, o + i, none⟩ = some (.int .i64 (l.getD i 0)) := by
  obtain ⟨h1, h2, zs, h3, h4, h5⟩ := open_row ht he hc h
  have hl : (zs.take n).length = n := by rw [List.length_take]; omega
  refine ⟨h1, h2, zs.take n, hl, fun i hi => ?_⟩
  rw [getD_take_lt _ _ _ _ (by omega)]
  exact h5 i (by omega)
/-- Its first m numbers, without a sign. -/
theorem open_u64s {H : Type} {enc : TypeId × Value → H} {W : World} {t e : TypeId} {p : Option Addr} {n c : Nat} {d : DataW H} {q : List MemPlace} (m : Nat) (hm : m ≤ 1073741824)
    (ht : Tryz.prog.underlying t = some (.slice e)) (he : Tryz.prog.underlying e = some (.int .u64)) (hc : Tryz.prog.cellsOf e = 1)
    (h : DataW.Trod enc Tryz.prog W 0 (fun _ => true) true t (.slice p n c) d q) :
    n ≤ c ∧ c ≤ 9223372036854775807 ∧ ∃ l : List Nat, l.length = min n m ∧ U64At W (.slice p l.length c) l := by
  obtain ⟨h1, h2, zs, h3, h4, h5⟩ := open_row ht he hc h
  have hb : ∀ i, 0 ≤ zs.getD i 0 ∧ zs.getD i 0 ≤ 18446744073709551615 := fun i => getD_prop (P := fun z => 0 ≤ z ∧ z ≤ 18446744073709551615) (fun z hz => bounds_u64 (h4 z hz)) (by decide) i
  have hl : ((zs.take (min n m)).map Int.toNat).length = min n m := by rw [List.length_map, List.length_take]; omega
  have hg : ∀ i, i < min n m → ((((zs.take (min n m)).map Int.toNat).getD i 0 : Nat) : Int) = zs.getD i 0 := fun i hi => by
    have h6 := hb i
    rw [List.getD_eq_getElem?_getD] at h6
    rw [List.getD_eq_getElem?_getD, List.getD_eq_getElem?_getD, List.getElem?_map, List.getElem?_take, if_pos hi]
    have hz : i < zs.length := by omega
    rw [List.getElem?_eq_getElem hz] at h6 ⊢
    simp only [Option.getD_some, Option.map_some] at h6 ⊢
    omega
  refine ⟨h1, h2, (zs.take (min n m)).map Int.toNat, hl, ⟨p, c, rfl, by omega, h2, fun i hi => ?_⟩, by omega, fun i => ?_⟩
  · rw [hg i (by omega)]
    exact h5 i (by omega)
  · by_cases hi : i < min n m
    · have h6 := hb i
      have h7 := hg i hi
      omega
    · rw [List.getD_eq_getElem?_getD, List.getElem?_eq_none (by omega)]
      decide

/-- A row of pairs of numbers, whole. -/
theorem open_pairs {H : Type} {enc : TypeId × Value → H} {W : World} {t e : TypeId} {f0 f1 : Field} {p : Option Addr} {n c : Nat} {d : DataW H} {q : List MemPlace}
    (ht : Tryz.prog.underlying t = some (.slice e)) (he : Tryz.prog.underlying e = some (.struct #[f0, f1])) (ce : Tryz.prog.cellsOf e = 2) (o0 : f0.offset = 0) (o1 : f1.offset = 1) (c0 : Tryz.prog.cellsOf f0.type = 1) (c1 : Tryz.prog.cellsOf f1.type = 1)
    (u0 : Tryz.prog.underlying f0.type = some (.int .i64)) (u1 : Tryz.prog.underlying f1.type = some (.int .i64))
    (h : DataW.Trod enc Tryz.prog W 0 (fun _ => true) true t (.slice p n c) d q) :
    n ≤ c ∧ c ≤ 9223372036854775807 ∧ ∃ l : List Cel, l.length = n ∧ (∀ x ∈ l, -9223372036854775808 ≤ x.2 ∧ x.2 ≤ 9223372036854775807) ∧
      ∀ i, i < l.length → ∃ b o, p = some ⟨b, o, none⟩ ∧ b < W.heap.size ∧ W.cell? ⟨b, o + i * 2, none⟩ = some (.int .i64 (l.getD i (0, 0)).1) ∧ W.cell? ⟨b, o + i * 2 + 1, none⟩ = some (.int .i64 (l.getD i (0, 0)).2) := by
  obtain ⟨fuel, hf⟩ := h
  rcases open_slice_pairs ht he ce o0 o1 c0 c1 hf with ⟨hcs, hx⟩ | ⟨a, len, cap, m, n', V0, V1, D0, D1, P0, P1, hcs, _, hl, hm, hmm, hx, hi⟩
  · simp [Value.cells] at hcs
    obtain ⟨rfl, rfl, rfl⟩ := hcs
    exact ⟨by omega, by omega, [], rfl, by simp, fun i hi => absurd hi (Nat.not_lt_zero i)⟩
  · simp [Value.cells] at hcs
    obtain ⟨rfl, rfl, rfl⟩ := hcs
    have hm' : c ≤ 9223372036854775807 := hm
    simp only [if_true] at hmm
    have key : ∀ i, i < n → ∃ x : Cel, V0 i = .int .i64 x.1 ∧ V1 i = .int .i64 x.2 ∧ (-9223372036854775808 ≤ x.2 ∧ x.2 ≤ 9223372036854775807) := by
      intro i hin
      obtain ⟨_, _, k0, k1⟩ := hi i (by omega)
      obtain ⟨z0, hz0, _, _⟩ := DataW.trod_int u0 k0
      obtain ⟨z1, hz1, _, hw1⟩ := DataW.trod_int u1 k1
      simp at hz0 hz1
      exact ⟨(z0, z1), hz0, hz1, bounds_i64 hw1⟩
    have hlist : ∀ m', m' ≤ n → ∃ l : List Cel, l.length = m' ∧ (∀ x ∈ l, -9223372036854775808 ≤ x.2 ∧ x.2 ≤ 9223372036854775807) ∧ ∀ i, i < m' → V0 i = .int .i64 (l.getD i (0, 0)).1 ∧ V1 i = .int .i64 (l.getD i (0, 0)).2 := by
      intro m'
      induction m' with
      | zero => exact fun _ => ⟨[], rfl, by simp, fun i hi => absurd hi (Nat.not_lt_zero i)⟩
      | succ m' ih =>
        intro hmn
        obtain ⟨l, hl1, hl2, hl3⟩ := ih (by omega)
        obtain ⟨x, hx0, hx1, hx2⟩ := key m' (by omega)
        refine ⟨l ++ [x], by simp [hl1], fun y hy => ?_, fun i hi' => ?_⟩
        · rcases List.mem_append.1 hy with h8 | h8
          · exact hl2 y h8
          · rw [List.mem_singleton.1 h8]; exact hx2
        · by_cases e' : i < m'
          · have h9 := hl3 i e'
            rw [List.getD_eq_getElem?_getD] at h9 ⊢
            rwa [List.getElem?_append_left (by omega)]
          · obtain rfl : i = m' := by omega
            rw [List.getD_eq_getElem?_getD, List.getElem?_append_right (by omega), hl1]
            simpa using ⟨hx0, hx1⟩
    obtain ⟨l, hl1, hl2, hl3⟩ := hlist n (Nat.le_refl _)
    refine ⟨hl, hm', l, hl1, hl2, fun i hi' => ?_⟩
    have h0 := (hi 0 (by omega)).1
    rw [Nat.zero_mul] at h0
    obtain ⟨b, o, rfl, hb⟩ := addr_plain h0
    obtain ⟨h6, h7, _, _⟩ := hi i (by omega)
    obtain ⟨h8, h9⟩ := hl3 i (by omega)
    rw [add_plain] at h6 h7
    rw [h8] at h6
    rw [h9] at h7
    exact ⟨b, o, rfl, hb, h6, h7⟩
end Go.Proofs.YtjbgbdiogfdokaaGreatDoor

namespace Go.Proofs.YtjbgbdiogfdokaaGreatDoor
open Go.ChangeShapes Go.WideShapes Go.ChangeAt Go.RowKit
set_option linter.unusedVariables false
set_option linter.unusedSimpArgs false

theorem kb2 {w W W' : World} {C D : Nat} (h : Below w.heap.size w W) (k : Kept [C, D] W W') (hC : w.heap.size ≤ C) (hD : w.heap.size ≤ D) : Below w.heap.size w W' := h.trans (k.below h.size (by intro x hx; simp at hx; omega))
theorem mod_at9 (x m : Int) (hm : 0 < m) : ∃ a, x.tmod m = a ∧ -m < a ∧ a < m ∧ ∃ j : Nat, (a + m).tmod m = (j : Int) ∧ (j : Int) < m := by
  refine ⟨x.tmod m, rfl, ?_⟩
  have h : -m < x.tmod m ∧ x.tmod m < m := by
    by_cases h : 0 ≤ x
    · rw [Int.tmod_eq_emod_of_nonneg h]
      have := Int.emod_nonneg x (show m ≠ 0 by omega)
      have := Int.emod_lt_of_pos x hm
      omega
    · have e : x.tmod m = -((-x).tmod m) := by rw [Int.neg_tmod]; omega
      rw [e, Int.tmod_eq_emod_of_nonneg (by omega)]
      have := Int.emod_nonneg (-x) (show m ≠ 0 by omega)
      have := Int.emod_lt_of_pos (-x) hm
      omega
  refine ⟨h.1, h.2, ((x.tmod m + m).tmod m).toNat, ?_, ?_⟩
  · have : 0 ≤ (x.tmod m + m).tmod m := Int.tmod_nonneg _ (by omega)
    omega
  · have h1 : 0 ≤ (x.tmod m + m).tmod m := Int.tmod_nonneg _ (by omega)
    have h2 : (x.tmod m + m).tmod m < m := by
      rw [Int.tmod_eq_emod_of_nonneg (by omega)]
      exact Int.emod_lt_of_pos _ hm
    omega
/-- Behind the first one that was got. -/
def WinS.four : WinS := ⟨4, 1000000, 0, 0, 1, true, 0, false, 0, false⟩
theorem winFirst (X : Int) (hX : 0 ≤ X) (pG : Option Addr) (cG : Nat) (C D : Nat) (w : World) (h : WinAt (WinS.init.sent 1 (M.winDue 0 RttS.zero.rto)) RttS.zero C D w) :
    Calls Tryz.prog 16 #[.pointer (some ⟨C, 0, none⟩), .agg #[.slice pG 1 cG, .slice none 0 0, .slice none 0 0, .int .i64 0, .int .i64 X], .int .i64 0] w fun e w' => e = .returned (.tuple #[]) ∧ WinAt WinS.four (RttS.zero.sample X) C D w' ∧ Kept [C, D] w w' := by
  have h1 := winHear_any (WinS.init.sent 1 (M.winDue 0 RttS.zero.rto)) ⟨4, 1000000, 0, 0, 1, true, 0, false, 3000000, true⟩ ⟨by decide, by decide, by decide, by decide, by decide, by decide⟩ RttS.zero (RttS.zero.sample X) RttS.ok_zero 1 0 (by decide) (by decide) ⟨by decide, by decide, by decide, by decide, by decide, by decide⟩ (by decide) rfl ⟨by decide, by decide, by decide, by decide, by decide, by decide⟩
    pG none cG 0 (.slice none 0 0) 0 X 0 (by decide) (by unfold RttS.heard; rw [if_pos hX]) false C D w h (.inl ⟨rfl, rfl, by decide⟩)
  exact h1
theorem winFire_ok (s : WinS) (hs : s.ok) : s.fire.ok := by
  obtain ⟨⟨a0, a1⟩, ⟨b0, b1⟩, _, _, e, f⟩ := hs
  exact ⟨(by decide : (1 : Int) ≤ 1 ∧ (1 : Int) ≤ 1099511627776), by unfold WinS.fire WinS.halve WinS.stop; simp only; omega, (by decide : (0 : Int) ≤ 0 ∧ (0 : Int) ≤ 1099511627776), (by decide : (0 : Int) ≤ 0 ∧ (0 : Int) ≤ 1099511627776), e, e⟩
set_option maxHeartbeats 16000000 in
set_option maxRecDepth 100000 in
theorem winFire_walk (n d : Int) (n1 : -9223372036854775808 ≤ n) (n2 : n ≤ 9223372036854775807) (d1 : -9223372036854775808 ≤ d) (d2 : d ≤ 9223372036854775807) (w : World) (hT : TabW w) :
    Calls Tryz.prog 5 #[.int .i64 n, .int .i64 d] w fun e w' => e = .returned (.bool true) ∧ Below w.heap.size w w' := by
  have HBG : Hid (∀ W, Below w.heap.size w W → Calls Tryz.prog 11 #[] W fun e w' => e = .returned (.bool true) ∧ Below W.heap.size W w') := Lib.hid (fun W hb => begun8_any W (hT.below hb))
  clear hT
  obtain ⟨a, ha, a1, a2, J, hJ, hJ3⟩ := mod_at9 n 12 (by decide)
  obtain ⟨X, hX⟩ : ∃ X, max 0 (min d 1099511627776) = X := ⟨_, rfl⟩
  have hX0 : 0 ≤ X ∧ X ≤ 1099511627776 := by omega
  obtain ⟨hX2, hX3⟩ := hX0
  have HS0 : Hid (∀ (C D : Nat) W, WinAt WinS.init RttS.zero C D W → Calls Tryz.prog 13 #[.pointer (some ⟨C, 0, none⟩), .int .u64 1, .int .i64 0] W fun e w' => e = .returned (.bool true) ∧ WinAt (WinS.init.sent 1 (M.winDue 0 RttS.zero.rto)) RttS.zero C D w' ∧ Kept [C] W w') := Lib.hid (fun C D W h => winSent_yes WinS.init WinS.ok_init (by decide) RttS.zero RttS.ok_zero 1 (by decide) 0 (by decide) C D W h)
  have HH0 := Lib.hid (fun (pG : Option Addr) (cG C D : Nat) W (h : WinAt (WinS.init.sent 1 (M.winDue 0 RttS.zero.rto)) RttS.zero C D W) => winFirst X hX2 pG cG C D W h)
  have HSM := Lib.hid (fun (C : Nat) W (h : RttBlk RttS.zero C W) => rttSample_any RttS.zero RttS.ok_zero X C W h)
  have htok : (RttS.zero.sample X).ok := RttS.ok_zero.sample X
  have HRT := Lib.hid (fun (C : Nat) W (h : RttBlk (RttS.zero.sample X) C W) => rttRto_any (RttS.zero.sample X) htok C W h)
  have hr0 := htok.rto
  generalize RttS.zero.sample X = t0 at *
  obtain ⟨R, hR⟩ : ∃ R, t0.rto = R := ⟨_, rfl⟩
  rw [hR] at HRT hr0
  obtain ⟨r0, r1⟩ := hr0
  go_enter Tryz.func5, Tryz.ntmps5
  go_upto_region 6 with (first
    | (go_at_call 11; refine (HBG.out _ (Below.refl _ _)).mono ?_; rintro e w0 ⟨rfl, hb0⟩)
    | (go_at_call 12; refine (winNew_any _).mono ?_; rintro e w1 ⟨C, D, rfl, hwin, hc1, hd1, hb1⟩))
  have hbx := BlkIs.new #[.slice none 0 0, .slice none 0 0, .slice none 0 0, .int .i64 0, .int .i64 X] 31 w1
  have HW2 : Hid (WinAt WinS.init RttS.zero C D (w1.alloc (.cells #[.slice none 0 0, .slice none 0 0, .slice none 0 0, .int .i64 0, .int .i64 X] 31))) := Lib.hid (hwin.below (bel_alloc _ _))
  have HB2 : Hid (Below w.heap.size w (w1.alloc (.cells #[.slice none 0 0, .slice none 0 0, .slice none 0 0, .int .i64 0, .int .i64 X] 31))) := Lib.hid (bel_trans (bel_trans hb0 hb1) (bel_alloc _ _))
  have HNE : Hid (w.heap.size ≤ C ∧ w.heap.size ≤ D ∧ C < w1.heap.size ∧ D < w1.heap.size) := Lib.hid ⟨Nat.le_trans hb0.size hc1, Nat.le_trans hb0.size hd1, hwin.win.lt, BlkIs.lt hwin.rtt⟩
  have HBX := Lib.hid hbx
  clear hwin hc1 hd1 hb0 hb1 hbx
  generalize w1.alloc (.cells #[.slice none 0 0, .slice none 0 0, .slice none 0 0, .int .i64 0, .int .i64 X] 31) = w2 at *
  generalize w1.heap.size = B at *
  go_upto_region 8 with (go_at_call 13; (with_reducible refine (HS0.out C D w2 HW2.out).mono ?_); rintro e w3 ⟨rfl, hw3, hk3⟩; have k3 : BlkIs #[.slice none 0 0, .slice none 0 0, .slice none 0 0, .int .i64 0, .int .i64 X] 31 B w3 := BlkIs.kept HBX.out hk3 (by have := HNE.out; simp; omega); have e0 : (w3.alloc (.cells #[.int .u64 1] 26)).cell? ⟨B, 0, none⟩ = some (.slice none 0 0) := BlkIs.cell (k3.alloc _) 0; have ef := BlkIs.free (k3.alloc (.cells #[.int .u64 1] 26)) 0)
  have hBC : B ≠ C := by have := HNE.out; omega
  have hBD : B ≠ D := by have := HNE.out; omega
  have hCB : C < w3.heap.size := hw3.win.lt
  have k4 := (k3.alloc (.cells #[.int .u64 1] 26)).set 0 (.slice (some ⟨w3.heap.size, 0, none⟩) 1 1)
  have HW4 : Hid (WinAt (WinS.init.sent 1 (M.winDue 0 RttS.zero.rto)) RttS.zero C D ((w3.alloc (.cells #[.int .u64 1] 26)).setCell ⟨B, 0, none⟩ (.slice (some ⟨w3.heap.size, 0, none⟩) 1 1))) := Lib.hid (by
    have h1 := hw3.below (bel_alloc w3 (.cells #[.int .u64 1] 26))
    exact ⟨BlkIs.far h1.win hBC.symm _, BlkIs.far h1.rtt hBD.symm _, h1.ne⟩)
  have HB4 : Hid (Below w.heap.size w ((w3.alloc (.cells #[.int .u64 1] 26)).setCell ⟨B, 0, none⟩ (.slice (some ⟨w3.heap.size, 0, none⟩) 1 1))) := Lib.hid ((bel_trans (kb2 HB2.out (hk3.more (by simp)) HNE.out.1 HNE.out.2.1) (bel_alloc _ _)).setCell (p := ⟨B, 0, none⟩) (by have := HNE.out; simp; omega) _)
  clear e0 ef hw3 hk3 k3 HW2 HB2 HBX
  generalize (w3.alloc (.cells #[.int .u64 1] 26)).setCell ⟨B, 0, none⟩ (.slice (some ⟨w3.heap.size, 0, none⟩) 1 1) = w4 at *
  generalize w3.heap.size = Rb at *
  have x0 : w4.cell? ⟨B, 0, none⟩ = some (.slice (some ⟨Rb, 0, none⟩) 1 1) := BlkIs.cell k4 0
  have x1 : w4.cell? ⟨B, 1, none⟩ = some (.slice none 0 0) := BlkIs.cell k4 1
  have x2 : w4.cell? ⟨B, 2, none⟩ = some (.slice none 0 0) := BlkIs.cell k4 2
  have x3 : w4.cell? ⟨B, 3, none⟩ = some (.int .i64 0) := BlkIs.cell k4 3
  have x4 : w4.cell? ⟨B, 4, none⟩ = some (.int .i64 X) := BlkIs.cell k4 4
  go_upto_region 10 with (first
    | (go_at_call 16; (with_reducible refine (HH0.out (some ⟨Rb, 0, none⟩) 1 C D w4 HW4.out).mono ?_); rintro e w5 ⟨rfl, hw5, hk5⟩)
    | (go_at_call 20; refine (rttNew_any _).mono ?_; rintro e w6 ⟨rfl, rfl⟩))
  have k5 := BlkIs.kept k4 hk5 (by simp; omega)
  have HR6 : Hid (RttBlk RttS.zero w5.heap.size (w5.alloc (.cells (rttCells RttS.zero) 86))) := Lib.hid (BlkIs.new _ _ _)
  have HW6 : Hid (WinAt WinS.four t0 C D (w5.alloc (.cells (rttCells RttS.zero) 86))) := Lib.hid (hw5.below (bel_alloc _ _))
  have hx4 : (w5.alloc (.cells (rttCells RttS.zero) 86)).cell? ⟨B, 4, none⟩ = some (.int .i64 X) := BlkIs.cell (k5.alloc _) 4
  have HB6 : Hid (Below w.heap.size w (w5.alloc (.cells (rttCells RttS.zero) 86))) := Lib.hid (bel_trans (kb2 HB4.out hk5 HNE.out.1 HNE.out.2.1) (bel_alloc _ _))
  have HE : Hid (C < w5.heap.size ∧ D < w5.heap.size ∧ w.heap.size ≤ w5.heap.size) := Lib.hid ⟨hw5.win.lt, BlkIs.lt hw5.rtt, (kb2 HB4.out hk5 HNE.out.1 HNE.out.2.1).size⟩
  clear x0 x1 x2 x3 x4 hw5 hk5 k4 k5 HW4 HB4
  generalize w5.alloc (.cells (rttCells RttS.zero) 86) = w6 at *
  generalize w5.heap.size = E at *
  go_upto_region 12 with (first
    | (go_at_call 21; (with_reducible refine (HSM.out E w6 HR6.out).mono ?_); rintro e w7 ⟨rfl, hr7, hk7⟩)
    | (go_at_call 22; (with_reducible refine (HRT.out E w7 hr7).mono ?_); rintro e w8 ⟨rfl, q8, rfl⟩))
  have HW7 : Hid (WinAt WinS.four t0 C D (w7.drewN q8)) := Lib.hid ((HW6.out.kept hk7 (by have := HE.out; simp; omega) (by have := HE.out; simp; omega)).drewN q8)
  have HB7 : Hid (Below w.heap.size w (w7.drewN q8)) := Lib.hid (bel_trans (HB6.out.trans (hk7.below HB6.out.size (by intro x hx; have := HE.out; simp at hx; omega))) (bel_drewN _ _))
  clear hr7 hk7 hx4 HW6 HB6 HR6 HSM HRT HH0 HS0
  generalize w7.drewN q8 = w7' at *
  have HT0 : Hid (t0.ok ∧ t0.rto = R) := Lib.hid ⟨htok, hR⟩
  clear hX htok hR
  go_wp2
  go_loopw [9, 10, 11] (fun nw wt i wr => ∃ (k : Nat) (s : WinS) (t : RttS) (T Q : Int), i = .int .i64 (k : Int) ∧ nw = .int .i64 T ∧ wt = .int .i64 Q ∧ k ≤ 1 + J ∧ (0 ≤ T ∧ T ≤ 64000000 * (k : Int)) ∧ (200000 ≤ Q ∧ Q ≤ 64000000) ∧ Hid (s.ok ∧ t.ok ∧ t.rto = Q ∧ s.pipe = 0 ∧ s.runs = false) ∧ Hid (WinAt s t C D wr) ∧ Hid (Below w.heap.size w wr)) (fun _ _ i _ => 1 + J - (intOf i).toNat)
  case atStart => exact ⟨0, WinS.four, t0, 0, R, rfl, rfl, rfl, Nat.zero_le _, ⟨by decide, by decide⟩, ⟨r0, r1⟩, Lib.hid ⟨⟨by decide, by decide, by decide, by decide, by decide, by decide⟩, HT0.out.1, HT0.out.2, rfl, rfl⟩, HW7, HB7⟩
  case round =>
    obtain ⟨k, s, t, T, Q, rfl, rfl, rfl, hk, ⟨u1, u2⟩, ⟨q1, q2⟩, hs, hw, hb⟩ := hrel
    by_cases hkJ : k < 1 + J
    · obtain ⟨so, tok, hto, hpipe, hruns⟩ := hs.out
      have hdue : M.winDue T t.rto = T + Q := by unfold M.winDue; rw [hto]; omega
      obtain ⟨z, hz⟩ : ∃ z, s.sent (2 + k) (T + Q) = z := ⟨_, rfl⟩
      have hz2 : z = { s with pipe := s.pipe + 1, ln := 2 + k, lk := true, due := T + Q, runs := true } := by rw [← hz]; unfold WinS.sent; rw [if_neg (by simp [hruns])]
      have HS : Hid (Calls Tryz.prog 13 #[.pointer (some ⟨C, 0, none⟩), .int .u64 (2 + (k : Int)), .int .i64 T] wr fun e w' => e = .returned (.bool true) ∧ WinAt z t C D w' ∧ Kept [C] wr w') := Lib.hid (by
        have h1 := winSent_yes s so (by rw [hpipe]; have := so.b0; omega) t tok (2 + k) (by omega) T (by omega) C D wr hw.out
        rw [hdue, hz] at h1
        rw [show ((2 + k : Nat) : Int) = 2 + (k : Int) by omega] at h1
        exact h1)
      have zo : z.ok := by
        obtain ⟨g0, g1, g2, g3, g4, g5⟩ := so
        rw [hz2]
        exact ⟨g0, g1, by simp only; rw [hpipe]; decide, g3, by simp only; omega, g5⟩
      have HD : Hid (∀ W, WinAt z t C D W → Calls Tryz.prog 23 #[.pointer (some ⟨C, 0, none⟩)] W fun e w' => e = .returned (.tuple #[.int .i64 (T + Q), .bool true]) ∧ ∃ n, w' = W.drewN n) := Lib.hid (fun W hW => by
        have h1 := winDue_any z t C D W hW
        rw [show z.due = T + Q by rw [hz2], show z.runs = true by rw [hz2]] at h1
        exact h1)
      have HF1 : Hid (∀ W, WinAt z t C D W → Calls Tryz.prog 24 #[.pointer (some ⟨C, 0, none⟩), .int .i64 (T + Q - 1)] W fun e w' => e = .returned (.bool false) ∧ ∃ n, w' = W.drewN n) := Lib.hid (fun W hW => winFire_no z t (T + Q - 1) (.inr (by rw [hz2]; simp only; omega)) C D W hW)
      have HF2 : Hid (∀ W, WinAt z t C D W → Calls Tryz.prog 24 #[.pointer (some ⟨C, 0, none⟩), .int .i64 (T + Q)] W fun e w' => e = .returned (.bool true) ∧ WinAt z.fire t.back C D w' ∧ Kept [C, D] W w') := Lib.hid (fun W hW => winFire_yes z zo t tok (T + Q) (by omega) (by rw [hz2]) (by rw [hz2]; simp only; omega) C D W hW)
      have HCW : Hid (∀ W, WinAt z.fire t.back C D W → Calls Tryz.prog 14 #[.pointer (some ⟨C, 0, none⟩)] W fun e w' => e = .returned (.int .i64 1) ∧ W = w') := Lib.hid (fun W hW => by
        have h1 := winCwnd_any z.fire t.back C D W hW
        rw [show z.fire.cwnd = 1 from rfl] at h1
        exact h1)
      have HPI : Hid (∀ W, WinAt z.fire t.back C D W → Calls Tryz.prog 17 #[.pointer (some ⟨C, 0, none⟩)] W fun e w' => e = .returned (.int .i64 0) ∧ W = w') := Lib.hid (fun W hW => by
        have h1 := winPipe_any z.fire t.back C D W hW
        rw [show z.fire.pipe = 0 from rfl] at h1
        exact h1)
      have HN : Hid (z.fire.ok ∧ t.back.ok ∧ t.back.rto = min (2 * Q) 64000000 ∧ z.fire.pipe = 0 ∧ z.fire.runs = false) := Lib.hid ⟨winFire_ok z zo, tok.back, by rw [RttS.rto_back tok, hto]; rfl, rfl, rfl⟩
      have hdk : decide ((k : Int) < 1 + (J : Int)) = true := decide_eq_true (by omega)
      clear hz hz2 zo so tok hto hpipe hruns hdue hs
      go_upto_region 17 with (go_at_call 13; (with_reducible refine HS.out.mono ?_); rintro e w8 ⟨rfl, h8, k8⟩)
      go_upto_region 18 with (go_at_call 23; (with_reducible refine (HD.out _ h8).mono ?_); rintro e wd ⟨rfl, j1, rfl⟩)
      have h9 := h8.drewN j1
      have hb9 : Below w.heap.size w (w8.drewN j1) := bel_trans (kb2 hb.out (k8.more (by simp)) HNE.out.1 HNE.out.2.1) (bel_drewN _ _)
      clear h8 k8 hw hb HS HD
      generalize w8.drewN j1 = w9 at *
      have HF3 : Hid (Calls Tryz.prog 24 #[.pointer (some ⟨C, 0, none⟩), .int .i64 (T + Q - 1)] w9 fun e w' => e = .returned (.bool false) ∧ ∃ n, w' = w9.drewN n) := Lib.hid (HF1.out _ h9)
      have HF4 : Hid (∀ n, Calls Tryz.prog 24 #[.pointer (some ⟨C, 0, none⟩), .int .i64 (T + Q)] (w9.drewN n) fun e w' => e = .returned (.bool true) ∧ WinAt z.fire t.back C D w' ∧ Kept [C, D] (w9.drewN n) w') := Lib.hid (fun n => HF2.out _ (h9.drewN n))
      clear HF1 HF2 h9
      go_upto_region 20 with (first
        | (go_at_call 24; (with_reducible refine HF3.out.mono ?_); rintro e wf ⟨rfl, j2, rfl⟩; clear HF3)
        | (go_at_call 24; (with_reducible refine (HF4.out _).mono ?_); rintro e wi ⟨rfl, h11, k11⟩; clear HF4)
        | (go_at_call 14; (with_reducible refine (HCW.out _ h11).mono ?_); rintro e wg ⟨rfl, rfl⟩)
        | (go_at_call 17; (with_reducible refine (HPI.out _ h11).mono ?_); rintro e wg ⟨rfl, rfl⟩))
      have HB9 : Hid (Below w.heap.size w wi) := Lib.hid (kb2 (bel_trans hb9 (bel_drewN w9 j2)) k11 HNE.out.1 HNE.out.2.1)
      have HWI := Lib.hid h11
      clear h11 k11 hb9 HCW HPI
      go_wp2
      refine ⟨⟨k + 1, z.fire, t.back, T + Q, min (2 * Q) 64000000, by go_num, rfl, rfl, by omega, ⟨by omega, by omega⟩, ⟨by omega, by omega⟩, HN, HWI, HB9⟩, ?_⟩
      simp [intOf]; omega
    · have hdk : decide ((k : Int) < 1 + (J : Int)) = false := decide_eq_false (by omega)
      go_wp2
      go_ret
      exact ⟨rfl, hb.out⟩
end Go.Proofs.YtjbgbdiogfdokaaGreatDoor

namespace Go.Proofs.YtjbgbdiogfdokaaGreatDoor
open Go.ChangeShapes Go.WideShapes Go.ChangeAt Go.RowKit
set_option linter.unusedVariables false
set_option linter.unusedSimpArgs false

/-- Ahead of any loss: so wide, so many on their way. -/
structure SlS (c p : Int) (s : WinS) : Prop where
  ok : s.ok
  c : s.cwnd = c
  sl : s.slow = 1000000
  p : s.pipe = p
  k : s.count = 0
theorem SlS.next {c p : Int} {s : WinS} (h : SlS c p s) (h0 : 0 ≤ p) (h1 : p < c) (h2 : c ≤ 900) (n : Nat) (hn : n < 18446744073709551616) (due : Int) : SlS c (p + 1) (s.sent n due) := by
  obtain ⟨⟨o0, o1, o2, o3, o4, o5⟩, hc, hs, hp, hk⟩ := h
  unfold WinS.sent
  split
  · exact ⟨⟨o0, o1, by simp only; omega, o3, hn, o5⟩, hc, hs, by simp only; omega, hk⟩
  · exact ⟨⟨o0, o1, by simp only; omega, o3, hn, o5⟩, hc, hs, by simp only; omega, hk⟩
theorem slow_hear (c p : Int) (k : Nat) (hk : (k : Int) ≤ p) (hk5 : k ≤ 5) (h1 : 1 ≤ c) (h2 : c ≤ 500) (hp : p ≤ 500) (s : WinS) (hs : SlS c p s) (t : RttS) (ht : t.ok) (pG : Option Addr) (cG C D : Nat) (w : World) (h : WinAt s t C D w) :
    Calls Tryz.prog 16 #[.pointer (some ⟨C, 0, none⟩), .agg #[.slice pG k cG, .slice none 0 0, .slice none 0 0, .int .i64 0, .int .i64 1000], .int .i64 5] w fun e w' => ∃ s2 : WinS, e = .returned (.tuple #[]) ∧ (SlS (c + k) (p - k) s2 ∧ WinAt s2 (t.sample 1000) C D w') ∧ Kept [C, D] w w' := by
  obtain ⟨so, hc, hsl, hpp, hkk⟩ := hs
  obtain ⟨o0, o1, o2, o3, o4, o5⟩ := so
  obtain ⟨z, hz⟩ : ∃ z : WinS, s.less k 0 = z := ⟨_, rfl⟩
  have zp : z.pipe = p - k := by rw [← hz]; show max (s.pipe - (k : Int) - ((0 : Nat) : Int)) 0 = p - k; omega
  have zc : z.cwnd = c := by rw [← hz]; exact hc
  have zs : z.slow = 1000000 := by rw [← hz]; exact hsl
  have zk : z.count = 0 := by rw [← hz]; exact hkk
  have zl : z.ln = s.ln := by rw [← hz]; rfl
  have zhn : z.hn = s.hn := by rw [← hz]; rfl
  have zo : z.ok := ⟨by omega, by omega, by omega, by omega, by omega, by omega⟩
  have hf : z.fast k = k := by unfold WinS.fast; omega
  obtain ⟨y, hy⟩ : ∃ y : WinS, z.grow k = y := ⟨_, rfl⟩
  have hye : y = { z with cwnd := c + k, count := 0 } := by
    rw [← hy]
    unfold WinS.grow
    rw [hf, if_pos (by omega), zc, zk]
    congr 1
    omega
  have yo : y.ok := by
    obtain ⟨q0, q1, q2, q3, q4, q5⟩ := zo
    rw [hye]
    exact ⟨by simp only; omega, q1, q2, by simp only; omega, q4, q5⟩
  have h9 := winHear_any s y ⟨o0, o1, o2, o3, o4, o5⟩ t (t.sample 1000) ht k 0 (by omega) (by decide) (by rw [hz]; exact zo)
    (by rw [hz, hf]; omega) (by rw [hz]; exact hy) yo pG none cG 0 (.slice none 0 0) 0 1000 5 (by decide) rfl false C D w h (.inl ⟨rfl, rfl, by decide⟩)
  refine h9.mono fun e w' ⟨e1, e2, e3⟩ => ⟨_, e1, ⟨?_, e2⟩, e3⟩
  obtain ⟨q0, q1, q2, q3, q4, q5⟩ := yo
  have y0 : y.cwnd = c + k := by rw [hye]
  have y1 : y.slow = 1000000 := by rw [hye]; exact zs
  have y2 : y.pipe = p - k := by rw [hye]; exact zp
  have y3 : y.count = 0 := by rw [hye]
  show SlS (c + k) (p - k) (y.clock _)
  unfold WinS.clock
  split
  · exact ⟨⟨q0, q1, q2, q3, q4, q5⟩, y0, y1, y2, y3⟩
  · exact ⟨⟨q0, q1, q2, q3, q4, q5⟩, y0, y1, y2, y3⟩
theorem heardK (k n : Nat) (hk : k ≤ 11) (hn : n < 18446744073709551000) (w : World) : Calls Tryz.prog 15 #[.agg #[.int .i64 0, .int .i64 k, .int .i64 0, .int .i64 0, .int .i64 0, .int .u64 n, .int .i64 1000, .int .i64 0]] w fun e w' => ∃ p c, e = .returned (.tuple #[.agg #[.slice p k c, .slice none 0 0, .slice none 0 0, .int .i64 0, .int .i64 1000], .agg #[.slice p k c, .slice none 0 0, .slice none 0 0, .int .i64 0, .int .i64 1000]]) ∧ Below w.heap.size w w' :=
  heardG_any k hk n hn 1000 (by decide) (by decide) 1000 (by decide) w
set_option maxHeartbeats 16000000 in
set_option maxRecDepth 100000 in
theorem winSlow_walk (pn : Option Addr) (nl nc : Nat) (l : List Int) (hl : l.length = nl) (hnl : nl ≤ nc) (hnc : nc ≤ 9223372036854775807) (w : World) (hT : TabW w)
    (hcell : ∀ i, i < l.length → ∃ b o, pn = some ⟨b, o, none⟩ ∧ b < w.heap.size ∧ w.cell? ⟨b, o + i, none⟩ = some (.int .i64 (l.getD i 0))) :
    Calls Tryz.prog 3 #[.slice pn nl nc] w fun e w' => e = .returned (.bool true) ∧ Below w.heap.size w w' := by
  have HBG : Hid (∀ W, Below w.heap.size w W → Calls Tryz.prog 11 #[] W fun e w' => e = .returned (.bool true) ∧ Below W.heap.size W w') := Lib.hid (fun W hb => begun8_any W (hT.below hb))
  clear hT
  rw [hl] at hcell
  have HC := Lib.hid hcell
  clear hcell hl
  go_enter Tryz.func3, Tryz.ntmps3
  go_upto_region 5 with (first
    | (go_at_call 11; refine (HBG.out _ (Below.refl _ _)).mono ?_; rintro e w0 ⟨rfl, hb0⟩)
    | (go_at_call 12; refine (winNew_any _).mono ?_; rintro e w1 ⟨C, D, rfl, hwin, hc1, hd1, hb1⟩))
  have HW1 : Hid (SlS ((3 : Nat) : Int) ((0 : Nat) : Int) WinS.init ∧ RttS.zero.ok ∧ WinAt WinS.init RttS.zero C D w1) := Lib.hid ⟨⟨WinS.ok_init, rfl, rfl, rfl, rfl⟩, RttS.ok_zero, hwin⟩
  have HB1 : Hid (Below w.heap.size w w1) := Lib.hid (bel_trans hb0 hb1)
  have HNE : Hid (w.heap.size ≤ C ∧ w.heap.size ≤ D) := Lib.hid ⟨Nat.le_trans hb0.size hc1, Nat.le_trans hb0.size hd1⟩
  clear hwin hc1 hd1 hb0 hb1
  go_wp2
  go_loopw [5, 6, 7] (fun nv pv iv wr => ∃ (i N c p : Nat) (s : WinS) (t : RttS), iv = .int .i64 (i : Int) ∧ nv = .int .u64 (N : Int) ∧ pv = .int .i64 (p : Int) ∧ i ≤ 30 ∧ N ≤ 1 + 5 * i ∧ 1 ≤ N ∧ 3 ≤ c ∧ c ≤ 3 + 5 * i ∧ p ≤ c ∧ Hid (SlS (c : Int) (p : Int) s ∧ t.ok ∧ WinAt s t C D wr) ∧ Hid (Below w.heap.size w wr)) (fun _ _ iv _ => 30 - (intOf iv).toNat)
  case atStart => exact ⟨0, 1, 3, 0, _, _, rfl, rfl, rfl, by omega, by omega, by omega, by omega, by omega, by omega, HW1, HB1⟩
  case round =>
    obtain ⟨i, N, c, p, s, t, rfl, rfl, rfl, hi, hN1, hN2, hc1, hc2, hpc, hs, hb⟩ := hrel
    by_cases hlt : i < nl ∧ i < 30
    · obtain ⟨hl1, hl2⟩ := hlt
      have hd1 : decide ((i : Int) < (nl : Int)) = true := decide_eq_true (by omega)
      have hd2 : decide ((i : Int) < 30) = true := decide_eq_true (by omega)
      obtain ⟨b, o, rfl, hbl, hx⟩ := HC.out i hl1
      rw [← hb.out.cell (p := ⟨b, o + i, none⟩) hbl] at hx
      generalize l.getD i 0 = x at *
      obtain ⟨y, hy, y1, y2, K, hK, hK3⟩ := mod_at9 x 6 (by decide)
      clear hbl
      obtain ⟨wR, rfl⟩ : ∃ wR : World, wR = wr := ⟨_, rfl⟩
      go_upto_region 10 with fail
      clear hx hy hK
      go_wp2
      go_loopw [5, 6, 9] (fun nv pv jv wr => ∃ (j q : Nat) (s : WinS), jv = .int .i64 (j : Int) ∧ nv = .int .u64 ((N : Int) + (j : Int)) ∧ pv = .int .i64 (q : Int) ∧ j ≤ K ∧ q ≤ c ∧ Hid (SlS (c : Int) (q : Int) s ∧ WinAt s t C D wr) ∧ Hid (Below w.heap.size w wr)) (fun _ _ jv _ => K - (intOf jv).toNat)
      case atStart => exact ⟨0, p, s, rfl, by simp, rfl, Nat.zero_le _, hpc, Lib.hid ⟨hs.out.1, hs.out.2.2⟩, hb⟩
      case round =>
        obtain ⟨j, q, s', rfl, rfl, rfl, hj, hq, hs', hb'⟩ := hrel
        have HCW : Hid (∀ z W, SlS (c : Int) (q : Int) z → WinAt z t C D W → Calls Tryz.prog 14 #[.pointer (some ⟨C, 0, none⟩)] W fun e w' => e = .returned (.int .i64 (c : Int)) ∧ W = w') := Lib.hid (fun z W hz hW => by
          have h1 := winCwnd_any z t C D W hW
          rw [hz.c] at h1
          exact h1)
        by_cases hjK : j < K
        · have hdj : decide ((j : Int) < (K : Int)) = true := decide_eq_true (by omega)
          by_cases hqc : q < c
          · have hdq : decide ((q : Int) < (c : Int)) = true := decide_eq_true (by omega)
            obtain ⟨due, hdue⟩ : ∃ due, M.winDue 0 t.rto = due := ⟨_, rfl⟩
            have HSE : Hid (Calls Tryz.prog 13 #[.pointer (some ⟨C, 0, none⟩), .int .u64 ((N : Int) + (j : Int)), .int .i64 0] wr fun e w' => e = .returned (.bool true) ∧ WinAt (s'.sent (N + j) due) t C D w' ∧ Kept [C] wr w') := Lib.hid (by
              have h1 := winSent_yes s' hs'.out.1.ok (by rw [hs'.out.1.p, hs'.out.1.c]; omega) t hs.out.2.1 (N + j) (by omega) 0 (by decide) C D wr hs'.out.2
              rw [hdue, show ((N + j : Nat) : Int) = (N : Int) + (j : Int) by omega] at h1
              exact h1)
            have HSN : Hid (SlS (c : Int) ((q + 1 : Nat) : Int) (s'.sent (N + j) due)) := Lib.hid (by
              rw [show ((q + 1 : Nat) : Int) = (q : Int) + 1 by omega]
              exact hs'.out.1.next (by omega) (by omega) (by omega) (N + j) (by omega) due)
            have HC2 : Hid (∀ W, WinAt (s'.sent (N + j) due) t C D W → Calls Tryz.prog 14 #[.pointer (some ⟨C, 0, none⟩)] W fun e w' => e = .returned (.int .i64 (c : Int)) ∧ W = w') := Lib.hid (fun W hW => by
              have h1 := winCwnd_any _ t C D W hW
              rw [HSN.out.c] at h1
              exact h1)
            clear HCW hdue
            go_wp2_with (first
              | (go_at_call 13; (with_reducible refine HSE.out.mono ?_); rintro e w4 ⟨rfl, hw4, hk4⟩)
              | (go_at_call 14; (with_reducible refine (HC2.out _ hw4).mono ?_); rintro e w5 ⟨rfl, rfl⟩))
            refine ⟨⟨j + 1, q + 1, _, by go_num, by (first | go_num | (congr 1; omega)), by go_num, by omega, by omega, Lib.hid ⟨HSN.out, hw4⟩, Lib.hid (kb2 hb'.out (hk4.more (by simp)) HNE.out.1 HNE.out.2)⟩, ?_⟩
            simp [intOf]; omega
          · have hdq : decide ((q : Int) < (c : Int)) = false := decide_eq_false (by omega)
            have HSE : Hid (Calls Tryz.prog 13 #[.pointer (some ⟨C, 0, none⟩), .int .u64 ((N : Int) + (j : Int)), .int .i64 0] wr fun e w' => e = .returned (.bool false) ∧ ∃ n, w' = wr.drewN n) := Lib.hid (by
              have h1 := winSent_no s' (by rw [hs'.out.1.p, hs'.out.1.c]; omega) t (N + j) 0 C D wr hs'.out.2
              rw [show ((N + j : Nat) : Int) = (N : Int) + (j : Int) by omega] at h1
              exact h1)
            have HC2 : Hid (∀ n, Calls Tryz.prog 14 #[.pointer (some ⟨C, 0, none⟩)] (wr.drewN n) fun e w' => e = .returned (.int .i64 (c : Int)) ∧ wr.drewN n = w') := Lib.hid (fun n => HCW.out s' _ hs'.out.1 (hs'.out.2.drewN n))
            clear HCW
            go_wp2_with (first
              | (go_at_call 13; (with_reducible refine HSE.out.mono ?_); rintro e w4 ⟨rfl, n4, rfl⟩)
              | (go_at_call 14; (with_reducible refine (HC2.out _).mono ?_); rintro e w5 ⟨rfl, rfl⟩))
            refine ⟨⟨j + 1, q, s', by go_num, by (first | go_num | (congr 1; omega)), rfl, by omega, by omega, Lib.hid ⟨hs'.out.1, hs'.out.2.drewN _⟩, Lib.hid (bel_trans hb'.out (bel_drewN _ _))⟩, ?_⟩
            simp [intOf]; omega
        · obtain rfl : j = K := by omega
          have hdj : decide ((j : Int) < (j : Int)) = false := decide_eq_false (by omega)
          obtain ⟨k, hk, hk1, hk2, hk3⟩ : ∃ k : Nat, min (j : Int) (q : Int) = (k : Int) ∧ k ≤ q ∧ k ≤ 5 ∧ k ≤ j := ⟨min j q, by omega, by omega, by omega, by omega⟩
          have HC1 : Hid (Calls Tryz.prog 14 #[.pointer (some ⟨C, 0, none⟩)] wr fun e w' => e = .returned (.int .i64 (c : Int)) ∧ wr = w') := Lib.hid (HCW.out s' wr hs'.out.1 hs'.out.2)
          have HHK : Hid (∀ W, Calls Tryz.prog 15 #[.agg #[.int .i64 0, .int .i64 (k : Int), .int .i64 0, .int .i64 0, .int .i64 0, .int .u64 ((N : Int) + (j : Int) - (k : Int)), .int .i64 1000, .int .i64 0]] W fun e w' => ∃ p c, e = .returned (.tuple #[.agg #[.slice p k c, .slice none 0 0, .slice none 0 0, .int .i64 0, .int .i64 1000], .agg #[.slice p k c, .slice none 0 0, .slice none 0 0, .int .i64 0, .int .i64 1000]]) ∧ Below W.heap.size W w') := Lib.hid (fun W => by
            have h1 := heardK k (N + j - k) (by omega) (by omega) W
            rw [show ((N + j - k : Nat) : Int) = (N : Int) + (j : Int) - (k : Int) by omega] at h1
            exact h1)
          clear HCW
          obtain ⟨wS, rfl⟩ : ∃ wS : World, wS = wr := ⟨_, rfl⟩
          go_upto_region 21 with (first
            | (go_at_call 14; (with_reducible refine HC1.out.mono ?_); rintro e w3 ⟨rfl, rfl⟩)
            | (go_at_call 15; (with_reducible refine (HHK.out _).mono ?_); rintro e w4 ⟨pk, ck, rfl, hb4⟩))
          have hkb : BlkIs #[.slice pk k ck, .slice none 0 0, .slice none 0 0, .int .i64 0, .int .i64 1000] 31 w4.heap.size ((w4.alloc (.cells #[.slice pk k ck, .slice none 0 0, .slice none 0 0, .int .i64 0, .int .i64 1000] 31)).alloc (.cells #[.slice pk k ck, .slice none 0 0, .slice none 0 0, .int .i64 0, .int .i64 1000] 32)) := (BlkIs.new _ _ _).alloc _
          have hb5 : Below wS.heap.size wS ((w4.alloc (.cells #[.slice pk k ck, .slice none 0 0, .slice none 0 0, .int .i64 0, .int .i64 1000] 31)).alloc (.cells #[.slice pk k ck, .slice none 0 0, .slice none 0 0, .int .i64 0, .int .i64 1000] 32)) := bel_trans (bel_trans hb4 (bel_alloc _ _)) (bel_alloc _ _)
          have HW5 : Hid (WinAt s' t C D ((w4.alloc (.cells #[.slice pk k ck, .slice none 0 0, .slice none 0 0, .int .i64 0, .int .i64 1000] 31)).alloc (.cells #[.slice pk k ck, .slice none 0 0, .slice none 0 0, .int .i64 0, .int .i64 1000] 32))) := Lib.hid (hs'.out.2.below hb5)
          have HB5 : Hid (Below w.heap.size w ((w4.alloc (.cells #[.slice pk k ck, .slice none 0 0, .slice none 0 0, .int .i64 0, .int .i64 1000] 31)).alloc (.cells #[.slice pk k ck, .slice none 0 0, .slice none 0 0, .int .i64 0, .int .i64 1000] 32))) := Lib.hid (bel_trans hb'.out hb5)
          clear hb4 hb5 HC1 HHK
          generalize (w4.alloc (.cells #[.slice pk k ck, .slice none 0 0, .slice none 0 0, .int .i64 0, .int .i64 1000] 31)).alloc (.cells #[.slice pk k ck, .slice none 0 0, .slice none 0 0, .int .i64 0, .int .i64 1000] 32) = w5 at *
          generalize w4.heap.size = B at *
          have x0 : w5.cell? ⟨B, 0, none⟩ = some (.slice pk k ck) := BlkIs.cell hkb 0
          have x1 : w5.cell? ⟨B, 1, none⟩ = some (.slice none 0 0) := BlkIs.cell hkb 1
          have x2 : w5.cell? ⟨B, 2, none⟩ = some (.slice none 0 0) := BlkIs.cell hkb 2
          have x3 : w5.cell? ⟨B, 3, none⟩ = some (.int .i64 0) := BlkIs.cell hkb 3
          have x4 : w5.cell? ⟨B, 4, none⟩ = some (.int .i64 1000) := BlkIs.cell hkb 4
          have HHE := Lib.hid (slow_hear (c : Int) (q : Int) k (by omega) hk2 (by omega) (by omega) (by omega) s' hs'.out.1 t hs.out.2.1 pk ck C D w5 HW5.out)
          have HCA : Hid (∀ s2 W, SlS ((c : Int) + (k : Int)) ((q : Int) - (k : Int)) s2 → WinAt s2 (t.sample 1000) C D W → Calls Tryz.prog 14 #[.pointer (some ⟨C, 0, none⟩)] W fun e w' => e = .returned (.int .i64 ((c : Int) + (k : Int))) ∧ W = w') := Lib.hid (fun s2 W hz hW => by
            have h1 := winCwnd_any s2 _ C D W hW
            rw [hz.c] at h1
            exact h1)
          have HPA : Hid (∀ s2 W, SlS ((c : Int) + (k : Int)) ((q : Int) - (k : Int)) s2 → WinAt s2 (t.sample 1000) C D W → Calls Tryz.prog 17 #[.pointer (some ⟨C, 0, none⟩)] W fun e w' => e = .returned (.int .i64 ((q : Int) - (k : Int))) ∧ W = w') := Lib.hid (fun s2 W hz hW => by
            have h1 := winPipe_any s2 _ C D W hW
            rw [hz.p] at h1
            exact h1)
          clear hkb
          go_wp2_with (first
            | (go_at_call 16; (with_reducible refine HHE.out.mono ?_); rintro e w6 ⟨s2, rfl, hs6, hk6⟩; have hc6 := hs6.1; have hw6 := hs6.2)
            | (go_at_call 14; (with_reducible refine (HCA.out _ _ hc6 hw6).mono ?_); rintro e w7 ⟨rfl, rfl⟩)
            | (go_at_call 17; (with_reducible refine (HPA.out _ _ hc6 hw6).mono ?_); rintro e w7 ⟨rfl, rfl⟩))
          refine ⟨⟨i + 1, N + j, c + k, q - k, s2, t.sample 1000, by go_num, by (first | rfl | go_num | (congr 1; omega)), by (first | go_num | (congr 1; omega)), by omega, by omega, by omega, by omega, by omega, by omega, Lib.hid ⟨by
            rw [show ((c + k : Nat) : Int) = (c : Int) + (k : Int) by omega, show ((q - k : Nat) : Int) = (q : Int) - (k : Int) by omega]
            exact hc6, hs.out.2.1.sample 1000, hw6⟩, Lib.hid (kb2 HB5.out hk6 HNE.out.1 HNE.out.2)⟩, ?_⟩
          simp [intOf]; omega
    · by_cases hm : i < nl
      · have hd1 : decide ((i : Int) < (nl : Int)) = true := decide_eq_true (by omega)
        have hd2 : decide ((i : Int) < 30) = false := decide_eq_false (by omega)
        go_wp2
        go_ret
        exact ⟨rfl, hb.out⟩
      · have hd1 : decide ((i : Int) < (nl : Int)) = false := decide_eq_false (by omega)
        go_wp2
        go_ret
        exact ⟨rfl, hb.out⟩
end Go.Proofs.YtjbgbdiogfdokaaGreatDoor
