/-
  The laws RttSteady, RttBack, walked.
  Rows of numbers, and of pairs of numbers, that came in as arguments, opened.
  The laws RttBack, RttAll, walked.
-/
import Derived.Test.YtnffdacajdjeoaaGreatDoorRttB
import Derived.Test.YtnffdacajdjeoaaGreatDoorPlace
import Derived.Test.YtnffdacajdjeoaaGreatDoorIntR
import Derived.Test.YtnffdacajdjeoaaGreatDoorBegun8
import Derived.Test.YtnffdacajdjeoaaGreatDoorIvalA
import Derived.Test.YtnffdacajdjeoaaGreatDoorVecB
import Derived.OpenShut
import Derived.ChangeSlices
import Derived.ChangeSame
import Derived.Deep.Slices
import Derived.Deep.SlicePairs
namespace Go.Proofs.YtnffdacajdjeoaaGreatDoor
open Go.ChangeShapes Go.WideShapes Go.ChangeAt Go.RowKit
set_option linter.unusedVariables false
set_option linter.unusedSimpArgs false

theorem kept_bel {S : List Nat} {w0 a b : World} (h : Below w0.heap.size w0 a) (k : Kept S a b) (hs : ∀ x, x ∈ S → w0.heap.size ≤ x) : Below w0.heap.size w0 b := h.trans (k.below h.size hs)
theorem kept_bel1 {C : Nat} {w0 a b : World} (h : Below w0.heap.size w0 a) (k : Kept [C] a b) (hs : w0.heap.size ≤ C) : Below w0.heap.size w0 b := kept_bel h k (fun x hx => by simp at hx; omega)
/-- So many samples of D. -/
def stS (D : Int) (k : Nat) : RttS := if k = 0 then RttS.zero else ⟨true, D, RttS.fade (k - 1) (D / 2), 0⟩
theorem stS_next (D : Int) (h : 0 ≤ D ∧ D ≤ 64000000) (k : Nat) : (stS D k).sample D = stS D (k + 1) := by
  unfold stS
  rw [if_neg (show ¬ k + 1 = 0 by omega)]
  by_cases hk : k = 0
  · subst hk; exact RttS.sample_first D h
  · rw [if_neg hk, RttS.sample_same D _ _ h (RttS.fade_nonneg _ (by omega)), show k + 1 - 1 = (k - 1) + 1 by omega]; rfl
theorem stS_ok (D : Int) (h : 0 ≤ D ∧ D ≤ 64000000) (k : Nat) : (stS D k).ok := by
  induction k with
  | zero => exact RttS.ok_zero
  | succ k ih => rw [← stS_next D h]; exact ih.sample D
theorem stS_rto (D : Int) (k : Nat) (hk : 0 < k) : (stS D k).rto = min (max (D + max (4 * RttS.fade (k - 1) (D / 2)) 1000) 200000) 64000000 := by
  unfold stS; rw [if_neg (by omega)]; rfl
theorem stS_smooth (D : Int) (k : Nat) (hk : 0 < k) : (stS D k).smooth = D ∧ (stS D k).known = true := by
  unfold stS; rw [if_neg (by omega)]; exact ⟨rfl, rfl⟩
theorem steady_smooth (D : Int) (k : Nat) (hk : 0 < k) (C : Nat) (w : World) (h : RttBlk (stS D k) C w) :
    Calls Tryz.prog 42 #[.pointer (some ⟨C, 0, none⟩)] w fun e w' => e = .returned (.tuple #[.int .i64 D, .bool true]) ∧ w = w' := by
  have h1 := rttSmooth_any _ C w h
  rw [(stS_smooth D k hk).1, (stS_smooth D k hk).2, if_pos rfl] at h1
  exact h1
set_option maxHeartbeats 4000000 in
set_option maxRecDepth 100000 in
theorem rttSteady_walk (d : Int) (hd1 : -9223372036854775808 ≤ d) (hd2 : d ≤ 9223372036854775807) (n : Int) (hn1 : -9223372036854775808 ≤ n) (hn2 : n ≤ 9223372036854775807) (w : World) (hT : TabW w) :
    Calls Tryz.prog 13 #[.int .i64 d, .int .i64 n] w fun e w' => e = .returned (.bool true) ∧ Below w.heap.size w w' := by
  have HBG : Hid (∀ W, Below w.heap.size w W → Calls Tryz.prog 18 #[] W fun e w' => e = .returned (.bool true) ∧ Below W.heap.size W w') := Lib.hid (fun W hb => begun8_any W (hT.below hb))
  clear hT
  have key : ∃ D : Int, (0 ≤ D ∧ D ≤ 64000000) ∧ ((d < 0 ∧ -(d + 1).tmod 64000001 = D) ∨ (0 ≤ d ∧ d % 64000001 = D)) := by
    by_cases h : d < 0
    · have e : -(d + 1).tmod 64000001 = (-(d + 1)) % 64000001 := by rw [← Int.neg_tmod, Int.tmod_eq_emod_of_nonneg (by omega)]
      exact ⟨_, by omega, .inl ⟨h, e⟩⟩
    · exact ⟨_, by omega, .inr ⟨by omega, rfl⟩⟩
  obtain ⟨D, hD, key⟩ := key
  obtain ⟨a, ha, ha1, ha2, j, hj, hj2⟩ := mod_at n 60 (by decide)
  obtain ⟨T, hT⟩ : ∃ T : Nat, 1 + j = T := ⟨_, rfl⟩
  have hTi : (1 : Int) + (j : Int) = (T : Int) := by omega
  have hT1 : 1 ≤ T ∧ T ≤ 60 := by omega
  obtain ⟨E1, hE1⟩ : ∃ E, (if D < 200000 then 200000 else D) = E := ⟨_, rfl⟩
  obtain ⟨E2, hE2⟩ : ∃ E, (if 64000000 < E1 then 64000000 else E1) = E := ⟨_, rfl⟩
  obtain ⟨G1, hG1⟩ : ∃ E, (if 64000000 < D + 1000 then 64000000 else D + 1000) = E := ⟨_, rfl⟩
  obtain ⟨G2, hG2⟩ : ∃ E, (if 200000 < G1 then G1 else 200000) = E := ⟨_, rfl⟩
  have hV : Hid (∀ k, 0 < k → E2 ≤ (stS D k).rto) := Lib.hid (fun k hk => by
    rw [stS_rto D k hk, ← hE2, ← hE1]
    have := RttS.fade_nonneg (k - 1) (show 0 ≤ D / 2 by omega)
    split <;> split <;> omega)
  have hV2 : Hid ((stS D (T + 60)).rto = G2) := Lib.hid (by
    rw [stS_rto D _ (by omega), ← hG2, ← hG1]
    have := RttS.fade_end (T + 60 - 1) (by omega) D hD
    split <;> split <;> omega)
  have HN : Hid (∀ k, (stS D k).sample D = stS D (k + 1)) := Lib.hid (stS_next D hD)
  have HO : Hid (∀ k, (stS D k).ok) := Lib.hid (stS_ok D hD)
  obtain ⟨hD0, hD3⟩ := hD
  rcases key with ⟨h0, hm⟩ | ⟨h0, hm⟩
  all_goals
    go_enter Tryz.func13, Tryz.ntmps13
    go_wp2_with (first
      | (go_at_call 18; refine (HBG.out _ (by first | exact Below.refl _ _ | exact bel_alloc _ _ | exact bel_trans (bel_alloc _ _) (bel_alloc _ _))).mono ?_; rintro e w0 ⟨rfl, hb0⟩)
      | (go_at_call 38; refine (rttNew_any _).mono ?_; rintro e w1 ⟨rfl, rfl⟩))
    have HB0 : Hid (RttBlk (stS D 0) w0.heap.size (w0.alloc (.cells (rttCells RttS.zero) 112))) := Lib.hid (BlkIs.new _ _ _)
    have HW0 : Hid (Below w.heap.size w (w0.alloc (.cells (rttCells RttS.zero) 112))) := Lib.hid (bel_trans hb0 (bel_alloc _ _))
    have HC : Hid (w.heap.size ≤ w0.heap.size) := Lib.hid hb0.size
    clear hb0 hm
    generalize w0.alloc (.cells (rttCells RttS.zero) 112) = W1 at *
    generalize w0.heap.size = C at *
    go_loopw [7] (fun i wr => ∃ k : Nat, k ≤ T ∧ i = .int .i64 (k : Int) ∧ Hid (RttBlk (stS D k) C wr) ∧ Hid (Below w.heap.size w wr)) (fun i _ => T - (intOf i).toNat)
    case atStart => exact ⟨0, Nat.zero_le _, rfl, HB0, HW0⟩
    case round =>
      obtain ⟨k, hk, rfl, hbk, hwk⟩ := hrel
      by_cases hlt : k < T
      · obtain ⟨V, hVe⟩ : ∃ V, (stS D (k + 1)).rto = V := ⟨_, rfl⟩
        have hVV := hV.out (k + 1) (by omega)
        rw [hVe] at hVV
        have HS := Lib.hid (rttSample_any (stS D k) (HO.out k) D C wr hbk.out)
        rw [HN.out k] at HS
        have HR : Hid (∀ W, RttBlk (stS D (k + 1)) C W → Calls Tryz.prog 43 #[.pointer (some ⟨C, 0, none⟩)] W fun e w' => e = .returned (.int .i64 V) ∧ ∃ n, w' = W.drewN n) := Lib.hid (fun W hW => by
          have h1 := rttRto_any _ (HO.out (k + 1)) C W hW
          rw [hVe] at h1
          exact h1)
        clear hVe
        go_wp2_with (first
          | (go_at_call 39; (with_reducible refine HS.out.mono ?_); rintro e w1 ⟨rfl, hb1, hk1⟩; have HB1 := Lib.hid hb1; have HW1 := Lib.hid (kept_bel1 hwk.out hk1 HC.out); clear hb1 hk1)
          | (go_at_call 42; (with_reducible refine (steady_smooth D (k + 1) (Nat.succ_pos k) C _ HB1.out).mono ?_); rintro e w2 ⟨rfl, rfl⟩)
          | (go_at_call 43; (with_reducible refine (HR.out _ HB1.out).mono ?_); rintro e w3 ⟨rfl, q, rfl⟩))
        go_roundw
        case rel => exact ⟨k + 1, by omega, by go_num, Lib.hid (BlkIs.drewN HB1.out q), Lib.hid (bel_trans HW1.out (bel_drewN _ _))⟩
        case measure => simp [intOf]; omega
      · obtain rfl : k = T := by omega
        go_wp2
        obtain ⟨wo, rfl⟩ : ∃ wo : World, wo = wr := ⟨_, rfl⟩
        go_loopw [10] (fun i wx => ∃ m : Nat, m ≤ 60 ∧ i = .int .i64 (m : Int) ∧ Hid (RttBlk (stS D (k + m)) C wx) ∧ Hid (Below w.heap.size w wx)) (fun i _ => 60 - (intOf i).toNat)
        case atStart => exact ⟨0, Nat.zero_le _, rfl, hbk, hwk⟩
        case round =>
          obtain ⟨m, hm, rfl, hbm, hwm⟩ := hrel
          by_cases hlt2 : m < 60
          · have HS := Lib.hid (rttSample_any (stS D (k + m)) (HO.out _) D C wr hbm.out)
            rw [HN.out] at HS
            go_wp2_with (go_at_call 39; (with_reducible refine HS.out.mono ?_); rintro e w1 ⟨rfl, hb1, hk1⟩; have HB1 := Lib.hid hb1; have HW1 := Lib.hid (kept_bel1 hwm.out hk1 HC.out); clear hb1 hk1)
            go_roundw
            case rel => exact ⟨m + 1, by omega, by go_num, HB1, HW1⟩
            case measure => simp [intOf]; omega
          · obtain rfl : m = 60 := by omega
            have HR := Lib.hid (rttRto_any _ (HO.out _) C wr hbm.out)
            rw [hV2.out] at HR
            go_wp2_with (go_at_call 43; (with_reducible refine HR.out.mono ?_); rintro e w3 ⟨rfl, q, rfl⟩)
            go_ret
            exact ⟨rfl, bel_trans hwm.out (bel_drewN _ _)⟩
end Go.Proofs.YtnffdacajdjeoaaGreatDoor

namespace Go.Proofs.YtnffdacajdjeoaaGreatDoor
open Go.ChangeShapes Go.WideShapes Go.Deep Go.RowKit
set_option linter.unusedVariables false

theorem addr_plain {w : World} {a : Addr} {v : Value} (h : w.cell? (a.add 0) = some v) : ∃ b o, a = ⟨b, o, none⟩ ∧ b < w.heap.size := by
  have e : a.add 0 = a := by unfold Addr.add; split <;> simp_all
  rw [e] at h
  have hs : a.spot = none := by
    unfold World.cell? at h
    split at h
    · cases hsp : a.spot with
      | none => rfl
      | some x => rw [hsp] at h; simp at h
    · cases h
  have hb := World.block_lt_of_cell? w a h
  obtain ⟨b, o, sp⟩ := a
  simp only at hs
  subst hs
  exact ⟨b, o, rfl, hb⟩
theorem add_plain (b o k : Nat) : (⟨b, o, none⟩ : Addr).add k = ⟨b, o + k, none⟩ := by unfold Addr.add; split <;> simp_all

theorem open_row {H : Type} {enc : TypeId × Value → H} {W : World} {t e : TypeId} {k : IntKind} {p : Option Addr} {n c : Nat} {d : DataW H} {q : List MemPlace}
    (ht : Tryz.prog.underlying t = some (.slice e)) (he : Tryz.prog.underlying e = some (.int k)) (hc : Tryz.prog.cellsOf e = 1)
    (h : DataW.Trod enc Tryz.prog W 0 (fun _ => true) true t (.slice p n c) d q) :
    n ≤ c ∧ c ≤ 9223372036854775807 ∧ ∃ zs : List Int, n ≤ zs.length ∧ (∀ z ∈ zs, (Lit.int k z).wf = true) ∧ ∀ i, i < n → ∃ b o, p = some ⟨b, o, none⟩ ∧ b < W.heap.size ∧ W.cell? ⟨b, o + i, none⟩ = some (.int k (zs.getD i 0)) := by
  obtain ⟨fuel, hf⟩ := h
  rcases open_ints ht he hc hf with ⟨hcs, hx⟩ | ⟨a, len', cap', zs, hcs, _, hl, hm, hz, hx, hcell, hwz⟩
  · simp [Value.cells] at hcs
    obtain ⟨rfl, rfl, rfl⟩ := hcs
    exact ⟨by omega, by omega, [], by simp, by simp, fun i hi => absurd hi (Nat.not_lt_zero i)⟩
  · simp [Value.cells] at hcs
    obtain ⟨rfl, rfl, rfl⟩ := hcs
    simp only [if_true] at hz
    have hm' : c ≤ 9223372036854775807 := hm
    refine ⟨hl, hm', zs, by omega, hwz, fun i hi => ?_⟩
    obtain ⟨b, o, rfl, hb⟩ := addr_plain (hcell 0 (by omega))
    have h1 := hcell i (by omega)
    rw [add_plain] at h1
    exact ⟨b, o, rfl, hb, h1⟩

theorem getD_take_lt {α : Type} (l : List α) (d : α) (m i : Nat) (h : i < m) : (l.take m).getD i d = l.getD i d := by
  rw [List.getD_eq_getElem?_getD, List.getD_eq_getElem?_getD, List.getElem?_take, if_pos h]
theorem getD_prop {α : Type} {P : α → Prop} {l : List α} {d : α} (h : ∀ z ∈ l, P z) (hd : P d) (i : Nat) : P (l.getD i d) := by
  rw [List.getD_eq_getElem?_getD]
  by_cases hi : i < l.length
  · rw [List.getElem?_eq_getElem hi]; exact h _ (List.getElem_mem _)
  · rw [List.getElem?_eq_none (by omega)]; exact hd

/-- Its first m numbers, signed. -/
theorem open_i64s {H : Type} {enc : TypeId × Value → H} {W : World} {t e : TypeId} {p : Option Addr} {n c : Nat} {d : DataW H} {q : List MemPlace} (m : Nat) (hm : m ≤ 1073741824)
    (ht : Tryz.prog.underlying t = some (.slice e)) (he : Tryz.prog.underlying e = some (.int .i64)) (hc : Tryz.prog.cellsOf e = 1)
    (h : DataW.Trod enc Tryz.prog W 0 (fun _ => true) true t (.slice p n c) d q) :
    n ≤ c ∧ c ≤ 9223372036854775807 ∧ ∃ l : List Int, l.length = min n m ∧ I64At W (.slice p l.length c) l := by
  obtain ⟨h1, h2, zs, h3, h4, h5⟩ := open_row ht he hc h
  have hl : (zs.take (min n m)).length = min n m := by rw [List.length_take]; omega
  refine ⟨h1, h2, zs.take (min n m), hl, ⟨p, c, rfl, by omega, h2, fun i hi => ?_⟩, by omega, fun i => ?_⟩
  · rw [getD_take_lt _ _ _ _ (by omega)]
    exact h5 i (by omega)
  · exact getD_prop (P := fun z => -9223372036854775808 ≤ z ∧ z ≤ 9223372036854775807) (fun z hz => bounds_i64 (h4 z (List.mem_of_mem_take hz))) (by decide) i
/-- All its numbers, signed. -/
theorem open_i64w {H : Type} {enc : TypeId × Value → H} {W : World} {t e : TypeId} {p : Option Addr} {n c : Nat} {d : DataW H} {q : List MemPlace}
    (ht : Tryz.prog.underlying t = some (.slice e)) (he : Tryz.prog.underlying e = some (.int .i64)) (hc : Tryz.prog.cellsOf e = 1)
    (h : DataW.Trod enc Tryz.prog W 0 (fun _ => true) true t (.slice p n c) d q) :
    n ≤ c ∧ c ≤ 9223372036854775807 ∧ ∃ l : List Int, l.length = n ∧ ∀ i, i < l.length → ∃ b o, p = some ⟨b, o, none⟩ ∧ b < W.heap.size ∧ W.cell? ⟨b, o + i, none⟩ = some (.int .i64 (l.getD i 0)) := by
  obtain ⟨h1, h2, zs, h3, h4, h5⟩ := open_row ht he hc h
  have hl : (zs.take n).length = n := by rw [List.length_take]; omega
  refine ⟨h1, h2, zs.take n, hl, fun i hi => ?_⟩
  rw [getD_take_lt _ _ _ _ (by omega)]
  exact h5 i (by omega)
/-- Its first m numbers, without a sign. -/
theorem open_u64s {H : Type} {enc : TypeId × Value → H} {W : World} {t e : TypeId} {p : Option Addr} {n c : Nat} {d : DataW H} {q : List MemPlace} (m : Nat) (hm : m ≤ 1073741824)
    (ht : Tryz.prog.underlying t = some (.slice e)) (he : Tryz.prog.underlying e = some (.int .u64)) (hc : Tryz.prog.cellsOf e = 1)
    (h : DataW.Trod enc Tryz.prog W 0 (fun _ => true) true t (.slice p n c) d q) :
    n ≤ c ∧ c ≤ 9223372036854775807 ∧ ∃ l : List Nat, l.length = min n m ∧ U64At W (.slice p l.length c) l := by
  obtain ⟨h1, h2, zs, h3, h4, h5⟩ := open_row ht he hc h
  have hb : ∀ i, 0 ≤ zs.getD i 0 ∧ zs.getD i 0 ≤ 18446744073709551615 := fun i => getD_prop (P := fun z => 0 ≤ z ∧ z ≤ 18446744073709551615) (fun z hz => bounds_u64 (h4 z hz)) (by decide) i
  have hl : ((zs.take (min n m)).map Int.toNat).length = min n m := by rw [List.length_map, List.length_take]; omega
  have hg : ∀ i, i < min n m → ((((zs.take (min n m)).map Int.toNat).getD i 0 : Nat) : Int) = zs.getD i 0 := fun i hi => by
    have h6 := hb i
    rw [List.getD_eq_getElem?_getD] at h6
    rw [List.getD_eq_getElem?_getD, List.getD_eq_getElem?_getD, List.getElem?_map, List.getElem?_take, if_pos hi]
    have hz : i < zs.length := by omega
    rw [List.getElem?_eq_getElem hz] at h6 ⊢
    simp only [Option.getD_some, Option.map_some] at h6 ⊢
    omega
  refine ⟨h1, h2, (zs.take (min n m)).map Int.toNat, hl, ⟨p, c, rfl, by omega, h2, fun i hi => ?_⟩, by omega, fun i => ?_⟩
  · rw [hg i (by omega)]
    exact h5 i (by omega)
  · by_cases hi : i < min n m
    · have h6 := hb i
      have h7 := hg i hi
      omega
    · rw [List.getD_eq_getElem?_getD, List.getElem?_eq_none (by omega)]
      decide

/-- A row of pairs of numbers, whole. -/
theorem open_pairs {H : Type} {enc : TypeId × Value → H} {W : World} {t e : TypeId} {f0 f1 : Field} {p : Option Addr} {n c : Nat} {d : DataW H} {q : List MemPlace}
    (ht : Tryz.prog.underlying t = some (.slice e)) (he : Tryz.prog.underlying e = some (.struct #[f0, f1])) (ce : Tryz.prog.cellsOf e = 2) (o0 : f0.offset = 0) (o1 : f1.offset = 1) (c0 : Tryz.prog.cellsOf f0.type = 1) (c1 : Tryz.prog.cellsOf f1.type = 1)
    (u0 : Tryz.prog.underlying f0.type = some (.int .i64)) (u1 : Tryz.prog.underlying f1.type = some (.int .i64))
    (h : DataW.Trod enc Tryz.prog W 0 (fun _ => true) true t (.slice p n c) d q) :
    n ≤ c ∧ c ≤ 9223372036854775807 ∧ ∃ l : List Cel, l.length = n ∧ (∀ x ∈ l, -9223372036854775808 ≤ x.2 ∧ x.2 ≤ 9223372036854775807) ∧
      ∀ i, i < l.length → ∃ b o, p = some ⟨b, o, none⟩ ∧ b < W.heap.size ∧ W.cell? ⟨b, o + i * 2, none⟩ = some (.int .i64 (l.getD i (0, 0)).1) ∧ W.cell? ⟨b, o + i * 2 + 1, none⟩ = some (.int .i64 (l.getD i (0, 0)).2) := by
  obtain ⟨fuel, hf⟩ := h
  rcases open_slice_pairs ht he ce o0 o1 c0 c1 hf with ⟨hcs, hx⟩ | ⟨a, len, cap, m, n', V0, V1, D0, D1, P0, P1, hcs, _, hl, hm, hmm, hx, hi⟩
  · simp [Value.cells] at hcs
    obtain ⟨rfl, rfl, rfl⟩ := hcs
    exact ⟨by omega, by omega, [], rfl, by simp, fun i hi => absurd hi (Nat.not_lt_zero i)⟩
  · simp [Value.cells] at hcs
    obtain ⟨rfl, rfl, rfl⟩ := hcs
    have hm' : c ≤ 9223372036854775807 := hm
    simp only [if_true] at hmm
    have key : ∀ i, i < n → ∃ x : Cel, V0 i = .int .i64 x.1 ∧ V1 i = .int .i64 x.2 ∧ (-9223372036854775808 ≤ x.2 ∧ x.2 ≤ 9223372036854775807) := by
      intro i hin
      obtain ⟨_, _, k0, k1⟩ := hi i (by omega)
      obtain ⟨z0, hz0, _, _⟩ := DataW.trod_int u0 k0
      obtain ⟨z1, hz1, _, hw1⟩ := DataW.trod_int u1 k1
      simp at hz0 hz1
      exact ⟨(z0, z1), hz0, hz1, bounds_i64 hw1⟩
    have hlist : ∀ m', m' ≤ n → ∃ l : List Cel, l.length = m' ∧ (∀ x ∈ l, -9223372036854775808 ≤ x.2 ∧ x.2 ≤ 9223372036854775807) ∧ ∀ i, i < m' → V0 i = .int .i64 (l.getD i (0, 0)).1 ∧ V1 i = .int .i64 (l.getD i (0, 0)).2 := by
      intro m'
      induction m' with
      | zero => exact fun _ => ⟨[], rfl, by simp, fun i hi => absurd hi (Nat.not_lt_zero i)⟩
      | succ m' ih =>
        intro hmn
        obtain ⟨l, hl1, hl2, hl3⟩ := ih (by omega)
        obtain ⟨x, hx0, hx1, hx2⟩ := key m' (by omega)
        refine ⟨l ++ [x], by simp [hl1], fun y hy => ?_, fun i hi' => ?_⟩
        · rcases List.mem_append.1 hy with h8 | h8
          · exact hl2 y h8
          · rw [List.mem_singleton.1 h8]; exact hx2
        · by_cases e' : i < m'
          · have h9 := hl3 i e'
            rw [List.getD_eq_getElem?_getD] at h9 ⊢
            rwa [List.getElem?_append_left (by omega)]
          · obtain rfl : i = m' := by omega
            rw [List.getD_eq_getElem?_getD, List.getElem?_append_right (by omega), hl1]
            simpa using ⟨hx0, hx1⟩
    obtain ⟨l, hl1, hl2, hl3⟩ := hlist n (Nat.le_refl _)
    refine ⟨hl, hm', l, hl1, hl2, fun i hi' => ?_⟩
    have h0 := (hi 0 (by omega)).1
    rw [Nat.zero_mul] at h0
    obtain ⟨b, o, rfl, hb⟩ := addr_plain h0
    obtain ⟨h6, h7, _, _⟩ := hi i (by omega)
    obtain ⟨h8, h9⟩ := hl3 i (by omega)
    rw [add_plain] at h6 h7
    rw [h8] at h6
    rw [h9] at h7
    exact ⟨b, o, rfl, hb, h6, h7⟩
end Go.Proofs.YtnffdacajdjeoaaGreatDoor

namespace Go.Proofs.YtnffdacajdjeoaaGreatDoor
open Go.ChangeShapes Go.WideShapes Go.ChangeAt Go.RowKit
set_option linter.unusedVariables false
set_option linter.unusedSimpArgs false

set_option maxHeartbeats 4000000 in
set_option maxRecDepth 100000 in
theorem rttBack_walk (v : Value) (l : List Int) (n : Int) (hn1 : -9223372036854775808 ≤ n) (hn2 : n ≤ 9223372036854775807) (w : World) (hT : TabW w) (hv : ∃ p cap, v = .slice p l.length cap ∧ l.length ≤ cap ∧ cap ≤ 9223372036854775807 ∧ ∀ i, i < l.length → ∃ b o, p = some ⟨b, o, none⟩ ∧ b < w.heap.size ∧ w.cell? ⟨b, o + i, none⟩ = some (.int .i64 (l.getD i 0))) :
    Calls Tryz.prog 17 #[v, .int .i64 n] w fun e w' => e = .returned (.bool true) ∧ Below w.heap.size w w' := by
  have HBG : Hid (∀ W, Below w.heap.size w W → Calls Tryz.prog 18 #[] W fun e w' => e = .returned (.bool true) ∧ Below W.heap.size W w') := Lib.hid (fun W hb => begun8_any W (hT.below hb))
  clear hT
  obtain ⟨p, cap, rfl, hc1, hc2, hc⟩ := hv
  have HC0 := Lib.hid hc
  have hlen : l.length ≤ 9223372036854775807 := Nat.le_trans hc1 hc2
  clear hc1 hc2
  obtain ⟨N, hN⟩ : ∃ N, l.length = N := ⟨_, rfl⟩
  rw [hN] at HC0 hlen ⊢
  obtain ⟨a, ha, ha1, ha2, T, hT, hT2⟩ := mod_at n 12 (by decide)
  clear hc hN
  go_enter Tryz.func17, Tryz.ntmps17
  go_wp2_with (first
    | (go_at_call 18; refine (HBG.out _ (by first | exact Below.refl _ _ | exact bel_alloc _ _ | exact bel_trans (bel_alloc _ _) (bel_alloc _ _))).mono ?_; rintro e w0 ⟨rfl, hb0⟩)
    | (go_at_call 38; refine (rttNew_any _).mono ?_; rintro e w1 ⟨rfl, rfl⟩))
  have HB0 : Hid (RttBlk RttS.zero w0.heap.size (w0.alloc (.cells (rttCells RttS.zero) 112))) := Lib.hid (BlkIs.new _ _ _)
  have HW0 : Hid (Below w.heap.size w (w0.alloc (.cells (rttCells RttS.zero) 112))) := Lib.hid (bel_trans hb0 (bel_alloc _ _))
  have HC : Hid (w.heap.size ≤ w0.heap.size) := Lib.hid hb0.size
  clear hb0
  generalize w0.alloc (.cells (rttCells RttS.zero) 112) = W1 at *
  generalize w0.heap.size = C at *
  go_loopw [7] (fun i wr => ∃ (k : Nat) (s : RttS), k ≤ N ∧ k ≤ 10 ∧ i = .int .i64 (k : Int) ∧ Hid (s.ok ∧ (0 < k → s.known = true ∧ s.backed = 0)) ∧ Hid (RttBlk s C wr) ∧ Hid (Below w.heap.size w wr)) (fun i _ => N - (intOf i).toNat)
  case atStart => exact ⟨0, RttS.zero, Nat.zero_le _, Nat.zero_le _, rfl, Lib.hid ⟨RttS.ok_zero, fun h => by omega⟩, HB0, HW0⟩
  case round =>
    obtain ⟨k, s, hk, hk10, rfl, hs, hbk, hwk⟩ := hrel
    by_cases hlt : k < N ∧ k < 10
    · obtain ⟨hl1, hl2⟩ := hlt
      obtain ⟨b, o, rfl, hb, hcell⟩ := HC0.out k hl1
      rw [← hwk.out.cell (p := ⟨b, o + k, none⟩) hb] at hcell
      generalize l.getD k 0 = d at *
      have HS := Lib.hid (rttSample_any s hs.out.1 d C wr hbk.out)
      clear hb
      go_wp2_with (go_at_call 39; (with_reducible refine HS.out.mono ?_); rintro e w1 ⟨rfl, hb1, hk1⟩; have HB1 := Lib.hid hb1; have HW1 := Lib.hid (kept_bel1 hwk.out hk1 HC.out); clear hb1 hk1)
      go_roundw
      case rel => exact ⟨k + 1, s.sample d, by omega, by omega, by go_num, Lib.hid ⟨hs.out.1.sample d, fun _ => ⟨RttS.known_sample s d, RttS.backed_sample s d⟩⟩, HB1, HW1⟩
      case measure => simp [intOf]; omega
    · have hz : Hid (0 < N → 0 < k) := Lib.hid (fun h => by omega)
      have hd : k < N → ¬ k < 10 := fun h h2 => hlt ⟨h, h2⟩
      have HR := Lib.hid (rttRto_any s hs.out.1 C wr hbk.out)
      obtain ⟨R0, hR0⟩ : ∃ R, s.rto = R := ⟨_, rfl⟩
      have hRb := hs.out.1.rto
      have HR0 := Lib.hid hR0
      rw [hR0] at HR hRb
      obtain ⟨m, hm⟩ : ∃ m, s.smooth = m := ⟨_, rfl⟩
      obtain ⟨u, hu⟩ : ∃ m, s.spread = m := ⟨_, rfl⟩
      have HME := Lib.hid hm
      have HUE := Lib.hid hu
      clear hR0 hlt hm hu
      have fin : ∀ W : World, Hid (RttBlk s C W) → Hid (Below w.heap.size w W) → Hid (RttBlk s C W) ∧ Hid (Below w.heap.size w W) := fun _ h1 h2 => ⟨h1, h2⟩
      clear fin
      have hnn : k < N ∨ ¬ k < N := by omega
      rcases hnn with hn | hn
      all_goals
        have hd2 : ¬ (k < N ∧ k < 10) := by omega
        go_wp2_with (go_at_call 43; (with_reducible refine HR.out.mono ?_); rintro e w3 ⟨rfl, q, rfl⟩)
        obtain ⟨wo, hwo⟩ : ∃ wo : World, wr.drewN q = wo := ⟨_, rfl⟩
        have HB2 : Hid (RttBlk s C wo) := Lib.hid (by rw [← hwo]; exact BlkIs.drewN hbk.out q)
        have HW2 : Hid (Below w.heap.size w wo) := Lib.hid (by rw [← hwo]; exact bel_trans hwk.out (bel_drewN _ _))
        rw [hwo]
        clear hwo hbk hwk HB0 HW0
        go_loopw [9, 10] (fun a i wx => ∃ (j : Nat) (t : RttS), j ≤ T ∧ i = .int .i64 (j : Int) ∧ a = .int .i64 (M.rtDbls j R0) ∧ Hid (t.ok ∧ t.rto = M.rtDbls j R0 ∧ t.known = s.known ∧ t.smooth = s.smooth ∧ t.spread = s.spread) ∧ Hid (RttBlk t C wx) ∧ Hid (Below w.heap.size w wx)) (fun _ i _ => T - (intOf i).toNat)
        case atStart => exact ⟨0, s, Nat.zero_le _, rfl, rfl, Lib.hid ⟨hs.out.1, HR0.out, rfl, rfl, rfl⟩, HB2, HW2⟩
        case round =>
          obtain ⟨j, t, hj, rfl, rfl, ht, hbt, hwt⟩ := hrel
          have hb := M.rtDbls_bd j R0 hRb
          by_cases hlt2 : j < T
          · have HBk := Lib.hid (rttBack_any t ht.out.1 C wr hbt.out)
            obtain ⟨R, hR⟩ : ∃ R, (if 64000000 < 2 * M.rtDbls j R0 then 64000000 else 2 * M.rtDbls j R0) = R := ⟨_, rfl⟩
            have hRm : min (2 * M.rtDbls j R0) 64000000 = R := by rw [← hR]; split <;> omega
            have e : Hid (M.rtDbls (j + 1) R0 = R) := Lib.hid (by rw [← hR]; show M.rtDbl _ = _; unfold M.rtDbl; split <;> omega)
            have e2 : Hid (t.back.rto = R) := Lib.hid (by rw [RttS.rto_back ht.out.1, ht.out.2.1]; exact e.out)
            have HRt : Hid (∀ W, RttBlk t.back C W → Calls Tryz.prog 43 #[.pointer (some ⟨C, 0, none⟩)] W fun e w' => e = .returned (.int .i64 R) ∧ ∃ n, w' = W.drewN n) := Lib.hid (fun W hW => by
              have h1 := rttRto_any _ ht.out.1.back C W hW
              rw [e2.out] at h1
              exact h1)
            generalize M.rtDbls j R0 = D at *
            go_wp2_with (first
              | (go_at_call 41; (with_reducible refine HBk.out.mono ?_); rintro e w1 ⟨rfl, hb1, hk1⟩; have HB1 := Lib.hid hb1; have HW1 := Lib.hid (kept_bel1 hwt.out hk1 HC.out); clear hb1 hk1)
              | (go_at_call 43; (with_reducible refine (HRt.out _ HB1.out).mono ?_); rintro e w3 ⟨rfl, q2, rfl⟩))
            go_roundw
            case rel => exact ⟨j + 1, t.back, by omega, by go_num, by rw [e.out], Lib.hid ⟨ht.out.1.back, by rw [e.out]; exact e2.out, ht.out.2.2.1, ht.out.2.2.2.1, ht.out.2.2.2.2⟩, Lib.hid (BlkIs.drewN HB1.out q2), Lib.hid (bel_trans HW1.out (bel_drewN _ _))⟩
            case measure => simp [intOf]; omega
          · generalize M.rtDbls j R0 = D at *
            by_cases h0 : N = 0
            · subst h0
              go_wp2
              go_ret
              exact ⟨rfl, hwt.out⟩
            · have hN0 : ((N : Int) == 0) = false := by rw [beq_eq_false_iff_ne]; omega
              obtain ⟨hkn, hbz⟩ := hs.out.2 (hz.out (by omega))
              have HSM := Lib.hid (rttSmooth_any t C wr hbt.out)
              rw [ht.out.2.2.1, hkn, if_pos rfl, ht.out.2.2.2.1, HME.out] at HSM
              have HSA := Lib.hid (rttSample_any t ht.out.1 m C wr hbt.out)
              have hag := RttS.rto_again ht.out.1 (by rw [ht.out.2.2.1]; exact hkn)
              rw [ht.out.2.2.2.1, HME.out, ht.out.2.2.2.2] at hag
              have hbase : M.rtBase true m s.spread = R0 := by
                have h1 := HR0.out
                unfold RttS.rto at h1
                rw [if_pos hbz, hkn, HME.out] at h1
                exact h1
              rw [hbase] at hag
              have HRt : Hid (∀ W, RttBlk (t.sample m) C W → Calls Tryz.prog 43 #[.pointer (some ⟨C, 0, none⟩)] W fun e w' => e = .returned (.int .i64 (t.sample m).rto) ∧ ∃ n, w' = W.drewN n) := Lib.hid (fun W hW => rttRto_any _ (ht.out.1.sample m) C W hW)
              generalize (t.sample m).rto = R9 at *
              obtain ⟨g1, g2⟩ := hag
              clear hbase hkn hbz
              go_wp2_with (first
                | (go_at_call 42; (with_reducible refine HSM.out.mono ?_); rintro e w2 ⟨rfl, rfl⟩)
                | (go_at_call 39; (with_reducible refine HSA.out.mono ?_); rintro e w1 ⟨rfl, hb1, hk1⟩; have HB1 := Lib.hid hb1; have HW1 := Lib.hid (kept_bel1 hwt.out hk1 HC.out); clear hb1 hk1)
                | (go_at_call 43; (with_reducible refine (HRt.out _ HB1.out).mono ?_); rintro e w3 ⟨rfl, q2, rfl⟩; have HB1 : Hid (RttBlk (t.sample m) C (w1.drewN q2)) := Lib.hid (BlkIs.drewN HB1.out q2))
                | (go_at_call 43; (with_reducible refine (HRt.out _ (BlkIs.drewN HB1.out _)).mono ?_); rintro e w3 ⟨rfl, q3, rfl⟩))
              go_ret
              exact ⟨rfl, bel_trans HW1.out (bel_drewN _ _)⟩
end Go.Proofs.YtnffdacajdjeoaaGreatDoor
