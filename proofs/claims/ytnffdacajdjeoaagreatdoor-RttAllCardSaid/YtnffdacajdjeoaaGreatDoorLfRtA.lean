/-
  The laws RttSteady, RttBack, walked.
  Rows of numbers, and of pairs of numbers, that came in as arguments, opened.
  The law RttAll, walked.
-/
import Derived.Test.YtnffdacajdjeoaaGreatDoorRttB
import Derived.Test.YtnffdacajdjeoaaGreatDoorPlace
import Derived.Test.YtnffdacajdjeoaaGreatDoorIntR
import Derived.Test.YtnffdacajdjeoaaGreatDoorBegun8
import Derived.Test.YtnffdacajdjeoaaGreatDoorIvalA
import Derived.Test.YtnffdacajdjeoaaGreatDoorVecB
import Derived.OpenShut
import Derived.ChangeSlices
import Derived.ChangeSame
import Derived.Deep.Slices
import Derived.Deep.SlicePairs
namespace Go.Proofs.YtnffdacajdjeoaaGreatDoor
open Go.ChangeShapes Go.WideShapes Go.ChangeAt Go.RowKit
set_option linter.unusedVariables false
set_option linter.unusedSimpArgs false

theorem kept_bel {S : List Nat} {w0 a b : World} (h : Below w0.heap.size w0 a) (k : Kept S a b) (hs : ∀ x, x ∈ S → w0.heap.size ≤ x) : Below w0.heap.size w0 b := h.trans (k.below h.size hs)
theorem kept_bel1 {C : Nat} {w0 a b : World} (h : Below w0.heap.size w0 a) (k : Kept [C] a b) (hs : w0.heap.size ≤ C) : Below w0.heap.size w0 b := kept_bel h k (fun x hx => by simp at hx; omega)
/-- So many samples of D. -/
def stS (D : Int) (k : Nat) : RttS := if k = 0 then RttS.zero else ⟨true, D, RttS.fade (k - 1) (D / 2), 0⟩
theorem stS_next (D : Int) (h : 0 ≤ D ∧ D ≤ 64000000) (k : Nat) : (stS D k).sample D = stS D (k + 1) := by
  unfold stS
  rw [if_neg (show ¬ k + 1 = 0 by omega)]
  by_cases hk : k = 0
  · subst hk; exact RttS.sample_first D h
  · rw [if_neg hk, RttS.sample_same D _ _ h (RttS.fade_nonneg _ (by omega)), show k + 1 - 1 = (k - 1) + 1 by omega]; rfl
theorem stS_ok (D : Int) (h : 0 ≤ D ∧ D ≤ 64000000) (k : Nat) : (stS D k).ok := by
  induction k with
  | zero => exact RttS.ok_zero
  | succ k ih => rw [← stS_next D h]; exact ih.sample D
theorem stS_rto (D : Int) (k : Nat) (hk : 0 < k) : (stS D k).rto = min (max (D + max (4 * RttS.fade (k - 1) (D / 2)) 1000) 200000) 64000000 := by
  unfold stS; rw [if_neg (by omega)]; rfl
theorem stS_smooth (D : Int) (k : Nat) (hk : 0 < k) : (stS D k).smooth = D ∧ (stS D k).known = true := by
  unfold stS; rw [if_neg (by omega)]; exact ⟨rfl, rfl⟩
theorem steady_smooth (D : Int) (k : Nat) (hk : 0 < k) (C : Nat) (w : World) (h : RttBlk (stS D k) C w) :
    Calls Tryz.prog 42 #[.pointer (some ⟨C, 0, none⟩)] w fun e w' => e = .returned (.tuple #[.int .i64 D, .bool true]) ∧ w = w' := by
  have h1 := rttSmooth_any _ C w h
  rw [(stS_smooth D k hk).1, (stS_smooth D k hk).2, if_pos rfl] at h1
  exact h1
set_option maxHeartbeats 4000000 in
set_option maxRecDepth 100000 in
theorem rttSteady_walk (d : Int) (hd1 : -9223372036854775808 ≤ d) (hd2 : d ≤ 9223372036854775807) (n : Int) (hn1 : -9223372036854775808 ≤ n) (hn2 : n ≤ 9223372036854775807) (w : World) (hT : TabW w) :
    Calls Tryz.prog 13 #[.int .i64 d, .int .i64 n] w fun e w' => e = .returned (.bool true) ∧ Below w.heap.size w w' := by
  have HBG : Hid (∀ W, Below w.heap.size w W → Calls Tryz.prog 18 #[] W fun e w' => e = .returned (.bool true) ∧ Below W.heap.size W w') := Lib.hid (fun W hb => begun8_any W (hT.below hb))
  clear hT
  have key : ∃ D : Int, (0 ≤ D ∧ D ≤ 64000000) ∧ ((d < 0 ∧ -(d + 1).tmod 64000001 = D) ∨ (0 ≤ d ∧ d % 64000001 = D)) := by
    by_cases h : d < 0
    · have e : -(d + 1).tmod 64000001 = (-(d + 1)) % 64000001 := by rw [← Int.neg_tmod, Int.tmod_eq_emod_of_nonneg (by omega)]
      exact ⟨_, by omega, .inl ⟨h, e⟩⟩
    · exact ⟨_, by omega, .inr ⟨by omega, rfl⟩⟩
  obtain ⟨D, hD, key⟩ := key
  obtain ⟨a, ha, ha1, ha2, j, hj, hj2⟩ := mod_at n 60 (by decide)
  obtain ⟨T, hT⟩ : ∃ T : Nat, 1 + j = T := ⟨_, rfl⟩
  have hTi : (1 : Int) + (j : Int) = (T : Int) := by omega
  have hT1 : 1 ≤ T ∧ T ≤ 60 := by omega
  obtain ⟨E1, hE1⟩ : ∃ E, (if D < 200000 then 200000 else D) = E := ⟨_, rfl⟩
  obtain ⟨E2, hE2⟩ : ∃ E, (if 64000000 < E1 then 64000000 else E1) = E := ⟨_, rfl⟩
  obtain ⟨G1, hG1⟩ : ∃ E, (if 64000000 < D + 1000 then 64000000 else D + 1000) = E := ⟨_, rfl⟩
  obtain ⟨G2, hG2⟩ : ∃ E, (if 200000 < G1 then G1 else 200000) = E := ⟨_, rfl⟩
  have hV : Hid (∀ k, 0 < k → E2 ≤ (stS D k).rto) := Lib.hid (fun k hk => by
    rw [stS_rto D k hk, ← hE2, ← hE1]
    have := RttS.fade_nonneg (k - 1) (show 0 ≤ D / 2 by omega)
    split <;> split <;> omega)
  have hV2 : Hid ((stS D (T + 60)).rto = G2) := Lib.hid (by
    rw [stS_rto D _ (by omega), ← hG2, ← hG1]
    have := RttS.fade_end (T + 60 - 1) (by omega) D hD
    split <;> split <;> omega)
  have HN : Hid (∀ k, (stS D k).sample D = stS D (k + 1)) := Lib.hid (stS_next D hD)
  have HO : Hid (∀ k, (stS D k).ok) := Lib.hid (stS_ok D hD)
  obtain ⟨hD0, hD3⟩ := hD
  rcases key with ⟨h0, hm⟩ | ⟨h0, hm⟩
  all_goals
    go_enter Tryz.func13, Tryz.ntmps13
    go_wp2_with (first
      | (go_at_call 18; refine (HBG.out _ (by first | exact Below.refl _ _ | exact bel_alloc _ _ | exact bel_trans (bel_alloc _ _) (bel_alloc _ _))).mono ?_; rintro e w0 ⟨rfl, hb0⟩)
      | (go_at_call 38; refine (rttNew_any _).mono ?_; rintro e w1 ⟨rfl, rfl⟩))
    have HB0 : Hid (RttBlk (stS D 0) w0.heap.size (w0.alloc (.cells (rttCells RttS.zero) 112))) := Lib.hid (BlkIs.new _ _ _)
    have HW0 : Hid (Below w.heap.size w (w0.alloc (.cells (rttCells RttS.zero) 112))) := Lib.hid (bel_trans hb0 (bel_alloc _ _))
    have HC : Hid (w.heap.size ≤ w0.heap.size) := Lib.hid hb0.size
    clear hb0 hm
    generalize w0.alloc (.cells (rttCells RttS.zero) 112) = W1 at *
    generalize w0.heap.size = C at *
    go_loopw [7] (fun i wr => ∃ k : Nat, k ≤ T ∧ i = .int .i64 (k : Int) ∧ Hid (RttBlk (stS D k) C wr) ∧ Hid (Below w.heap.size w wr)) (fun i _ => T - (intOf i).toNat)
    case atStart => exact ⟨0, Nat.zero_le _, rfl, HB0, HW0⟩
    case round =>
      obtain ⟨k, hk, rfl, hbk, hwk⟩ := hrel
      by_cases hlt : k < T
      · obtain ⟨V, hVe⟩ : ∃ V, (stS D (k + 1)).rto = V := ⟨_, rfl⟩
        have hVV := hV.out (k + 1) (by omega)
        rw [hVe] at hVV
        have HS := Lib.hid (rttSample_any (stS D k) (HO.out k) D C wr hbk.out)
        rw [HN.out k] at HS
        have HR : Hid (∀ W, RttBlk (stS D (k + 1)) C W → Calls Tryz.prog 43 #[.pointer (some ⟨C, 0, none⟩)] W fun e w' => e = .returned (.int .i64 V) ∧ ∃ n, w' = W.drewN n) := Lib.hid (fun W hW => by
          have h1 := rttRto_any _ (HO.out (k + 1)) C W hW
          rw [hVe] at h1
          exact h1)
        clear hVe
        go_wp2_with (first
          | (go_at_call 39; (with_reducible refine HS.out.mono ?_); rintro e w1 ⟨rfl, hb1, hk1⟩; have HB1 := Lib.hid hb1; have HW1 := Lib.hid (kept_bel1 hwk.out hk1 HC.out); clear hb1 hk1)
          | (go_at_call 42; (with_reducible refine (steady_smooth D (k + 1) (Nat.succ_pos k) C _ HB1.out).mono ?_); rintro e w2 ⟨rfl, rfl⟩)
          | (go_at_call 43; (with_reducible refine (HR.out _ HB1.out).mono ?_); rintro e w3 ⟨rfl, q, rfl⟩))
        go_roundw
        case rel => exact ⟨k + 1, by omega, by go_num, Lib.hid (BlkIs.drewN HB1.out q), Lib.hid (bel_trans HW1.out (bel_drewN _ _))⟩
        case measure => simp [intOf]; omega
      · obtain rfl : k = T := by omega
        go_wp2
        obtain ⟨wo, rfl⟩ : ∃ wo : World, wo = wr := ⟨_, rfl⟩
        go_loopw [10] (fun i wx => ∃ m : Nat, m ≤ 60 ∧ i = .int .i64 (m : Int) ∧ Hid (RttBlk (stS D (k + m)) C wx) ∧ Hid (Below w.heap.size w wx)) (fun i _ => 60 - (intOf i).toNat)
        case atStart => exact ⟨0, Nat.zero_le _, rfl, hbk, hwk⟩
        case round =>
          obtain ⟨m, hm, rfl, hbm, hwm⟩ := hrel
          by_cases hlt2 : m < 60
          · have HS := Lib.hid (rttSample_any (stS D (k + m)) (HO.out _) D C wr hbm.out)
            rw [HN.out] at HS
            go_wp2_with (go_at_call 39; (with_reducible refine HS.out.mono ?_); rintro e w1 ⟨rfl, hb1, hk1⟩; have HB1 := Lib.hid hb1; have HW1 := Lib.hid (kept_bel1 hwm.out hk1 HC.out); clear hb1 hk1)
            go_roundw
            case rel => exact ⟨m + 1, by omega, by go_num, HB1, HW1⟩
            case measure => simp [intOf]; omega
          · obtain rfl : m = 60 := by omega
            have HR := Lib.hid (rttRto_any _ (HO.out _) C wr hbm.out)
            rw [hV2.out] at HR
            go_wp2_with (go_at_call 43; (with_reducible refine HR.out.mono ?_); rintro e w3 ⟨rfl, q, rfl⟩)
            go_ret
            exact ⟨rfl, bel_trans hwm.out (bel_drewN _ _)⟩
end Go.Proofs.YtnffdacajdjeoaaGreatDoor

namespace Go.Proofs.YtnffdacajdjeoaaGreatDoor
open Go.ChangeShapes Go.WideShapes Go.Deep Go.RowKit
set_option linter.unusedVariables false

theorem addr_plain {w : World} {a : Addr} {v : Value} (h : w.cell? (a.add 0) = some v) : ∃ b o, a = ⟨b, o, none⟩ ∧ b < w.heap.size := by
  have e : a.add 0 = a := by unfold Addr.add; split <;> simp_all
  rw [e] at h
  have hs : a.spot = none := by
    unfold World.cell? at h
    split at h
    · cases hsp : a.spot with
      | none => rfl
      | some x => rw [hsp] at h; simp at h
    · cases h
  have hb := World.block_lt_of_cell? w a h
  obtain ⟨b, o, sp⟩ := a
  simp only at hs
  subst hs
  exact ⟨b, o, rfl, hb⟩
theorem add_plain (b o k : Nat) : (⟨b, o, none⟩ : Addr).add k = ⟨b, o + k, none⟩ := by unfold Addr.add; split <;> simp_all

theorem open_row {H : Type} {enc : TypeId × Value → H} {W : World} {t e : TypeId} {k : IntKind} {p : Option Addr} {n c : Nat} {d : DataW H} {q : List MemPlace}
    (ht : Tryz.prog.underlying t = some (.slice e)) (he : Tryz.prog.underlying e = some (.int k)) (hc : Tryz.prog.cellsOf e = 1)
    (h : DataW.Trod enc Tryz.prog W 0 (fun _ => true) true t (.slice p n c) d q) :
    n ≤ c ∧ c ≤ 9223372036854775807 ∧ ∃ zs : List Int, n ≤ zs.length ∧ (∀ z ∈ zs, (Lit.int k z).wf = true) ∧ ∀ i, i < n → ∃ b o, p = some ⟨b, o, none⟩ ∧ b < W.heap.size ∧ W.cell? ⟨b, o + i, none⟩ = some (.int k (zs.getD i 0)) := by
  obtain ⟨fuel, hf⟩ := h
  rcases open_ints ht he hc hf with ⟨hcs, hx⟩ | ⟨a, len', cap', zs, hcs, _, hl, hm, hz, hx, hcell, hwz⟩
  · simp [Value.cells] at hcs
    obtain ⟨rfl, rfl, rfl⟩ := hcs
    exact ⟨by omega, by omega, [], by simp, by simp, fun i hi => absurd hi (Nat.not_lt_zero i)⟩
  · simp [Value.cells] at hcs
    obtain ⟨rfl, rfl, rfl⟩ := hcs
    simp only [if_true] at hz
    have hm' : c ≤ 9223372036854775807 := hm
    refine ⟨hl, hm', zs, by omega, hwz, fun i hi => ?_⟩
    obtain ⟨b, o, rfl, hb⟩ := addr_plain (hcell 0 (by omega))
    have h1 := hcell i (by omega)
    rw [add_plain] at h1
    exact ⟨b, o, rfl, hb, h1⟩

theorem getD_take_lt {α : Type} (l : List α) (d : α) (m i : Nat) (h : i < m) : (l.take m).getD i d = l.getD i d := by
  rw [List.getD_eq_getElem?_getD, List.getD_eq_getElem?_getD, List.getElem?_take, if_pos h]
theorem getD_prop {α : Type} {P : α → Prop} {l : List α} {d : α} (h : ∀ z ∈ l, P z) (hd : P d) (i : Nat) : P (l.getD i d) := by
  rw [List.getD_eq_getElem?_getD]
  by_cases hi : i < l.length
  · rw [List.getElem?_eq_getElem hi]; exact h _ (List.getElem_mem _)
  · rw [List.getElem?_eq_none (by omega)]; exact hd

/-- Its first m numbers, signed. -/
theorem open_i64s {H : Type} {enc : TypeId × Value → H} {W : World} {t e : TypeId} {p : Option Addr} {n c : Nat} {d : DataW H} {q : List MemPlace} (m : Nat) (hm : m ≤ 1073741824)
    (ht : Tryz.prog.underlying t = some (.slice e)) (he : Tryz.prog.underlying e = some (.int .i64)) (hc : Tryz.prog.cellsOf e = 1)
    (h : DataW.Trod enc Tryz.prog W 0 (fun _ => true) true t (.slice p n c) d q) :
    n ≤ c ∧ c ≤ 9223372036854775807 ∧ ∃ l : List Int, l.length = min n m ∧ I64At W (.slice p l.length c) l := by
  obtain ⟨h1, h2, zs, h3, h4, h5⟩ := open_row ht he hc h
  have hl : (zs.take (min n m)).length = min n m := by rw [List.length_take]; omega
  refine ⟨h1, h2, zs.take (min n m), hl, ⟨p, c, rfl, by omega, h2, fun i hi => ?_⟩, by omega, fun i => ?_⟩
  · rw [getD_take_lt _ _ _ _ (by omega)]
    exact h5 i (by omega)
  · exact getD_prop (P := fun z => -9223372036854775808 ≤ z ∧ z ≤ 9223372036854775807) (fun z hz => bounds_i64 (h4 z (List.mem_of_mem_take hz))) (by decide) i
/-- All its numbers, signed. -/
theorem open_i64w {H : Type} {enc : TypeId × Value → H} {W : World} {t e : TypeId} {p : Option Addr} {n c : Nat} {d : DataW H} {q : List MemPlace}
    (ht : Tryz.prog.underlying t = some (.slice e)) (he : Tryz.prog.underlying e = some (.int .i64)) (hc : Tryz.prog.cellsOf e = 1)
    (h : DataW.Trod enc Tryz.prog W 0 (fun _ => true) true t (.slice p n c) d q) :
    n ≤ c ∧ c ≤ 9223372036854775807 ∧ ∃ l : List Int, l.length = n ∧ ∀ i, i < l.length → ∃ b o, p = some ⟨b, o, none⟩ ∧ b < W.heap.size ∧ W.cell? ⟨b, o + i, none⟩ = some (.int .i64 (l.getD i 0)) := by
  obtain ⟨h1, h2, zs, h3, h4, h5⟩ := open_row ht he hc h
  have hl : (zs.take n).length = n := by rw [List.length_take]; omega
  refine ⟨h1, h2, zs.take n, hl, fun i hi => ?_⟩
  rw [getD_take_lt _ _ _ _ (by omega)]
  exact h5 i (by omega)
/-- Its first m numbers, without a sign. -/
theorem open_u64s {H : Type} {enc : TypeId × Value → H} {W : World} {t e : TypeId} {p : Option Addr} {n c : Nat} {d : DataW H} {q : List MemPlace} (m : Nat) (hm : m ≤ 1073741824)
    (ht : Tryz.prog.underlying t = some (.slice e)) (he : Tryz.prog.underlying e = some (.int .u64)) (hc : Tryz.prog.cellsOf e = 1)
    (h : DataW.Trod enc Tryz.prog W 0 (fun _ => true) true t (.slice p n c) d q) :
    n ≤ c ∧ c ≤ 9223372036854775807 ∧ ∃ l : List Nat, l.length = min n m ∧ U64At W (.slice p l.length c) l := by
  obtain ⟨h1, h2, zs, h3, h4, h5⟩ := open_row ht he hc h
  have hb : ∀ i, 0 ≤ zs.getD i 0 ∧ zs.getD i 0 ≤ 18446744073709551615 := fun i => getD_prop (P := fun z => 0 ≤ z ∧ z ≤ 18446744073709551615) (fun z hz => bounds_u64 (h4 z hz)) (by decide) i
  have hl : ((zs.take (min n m)).map Int.toNat).length = min n m := by rw [List.length_map, List.length_take]; omega
  have hg : ∀ i, i < min n m → ((((zs.take (min n m)).map Int.toNat).getD i 0 : Nat) : Int) = zs.getD i 0 := fun i hi => by
    have h6 := hb i
    rw [List.getD_eq_getElem?_getD] at h6
    rw [List.getD_eq_getElem?_getD, List.getD_eq_getElem?_getD, List.getElem?_map, List.getElem?_take, if_pos hi]
    have hz : i < zs.length := by omega
    rw [List.getElem?_eq_getElem hz] at h6 ⊢
    simp only [Option.getD_some, Option.map_some] at h6 ⊢
    omega
  refine ⟨h1, h2, (zs.take (min n m)).map Int.toNat, hl, ⟨p, c, rfl, by omega, h2, fun i hi => ?_⟩, by omega, fun i => ?_⟩
  · rw [hg i (by omega)]
    exact h5 i (by omega)
  · by_cases hi : i < min n m
    · have h6 := hb i
      have h7 := hg i hi
      omega
    · rw [List.getD_eq_getElem?_getD, List.getElem?_eq_none (by omega)]
      decide

/-- A row of pairs of numbers, whole. -/
theorem open_pairs {H : Type} {enc : TypeId × Value → H} {W : World} {t e : TypeId} {f0 f1 : Field} {p : Option Addr} {n c : Nat} {d : DataW H} {q : List MemPlace}
    (ht : Tryz.prog.underlying t = some (.slice e)) (he : Tryz.prog.underlying e = some (.struct #[f0, f1])) (ce : Tryz.prog.cellsOf e = 2) (o0 : f0.offset = 0) (o1 : f1.offset = 1) (c0 : Tryz.prog.cellsOf f0.type = 1) (c1 : Tryz.prog.cellsOf f1.type = 1)
    (u0 : Tryz.prog.underlying f0.type = some (.int .i64)) (u1 : Tryz.prog.underlying f1.type = some (.int .i64))
    (h : DataW.Trod enc Tryz.prog W 0 (fun _ => true) true t (.slice p n c) d q) :
    n ≤ c ∧ c ≤ 9223372036854775807 ∧ ∃ l : List Cel, l.length = n ∧ (∀ x ∈ l, -9223372036854775808 ≤ x.2 ∧ x.2 ≤ 9223372036854775807) ∧
      ∀ i, i < l.length → ∃ b o, p = some ⟨b, o, none⟩ ∧ b < W.heap.size ∧ W.cell? ⟨b, o + i * 2, none⟩ = some (.int .i64 (l.getD i (0, 0)).1) ∧ W.cell? ⟨b, o + i * 2 + 1, none⟩ = some (.int .i64 (l.getD i (0, 0)).2) := by
  obtain ⟨fuel, hf⟩ := h
  rcases open_slice_pairs ht he ce o0 o1 c0 c1 hf with ⟨hcs, hx⟩ | ⟨a, len, cap, m, n', V0, V1, D0, D1, P0, P1, hcs, _, hl, hm, hmm, hx, hi⟩
  · simp [Value.cells] at hcs
    obtain ⟨rfl, rfl, rfl⟩ := hcs
    exact ⟨by omega, by omega, [], rfl, by simp, fun i hi => absurd hi (Nat.not_lt_zero i)⟩
  · simp [Value.cells] at hcs
    obtain ⟨rfl, rfl, rfl⟩ := hcs
    have hm' : c ≤ 9223372036854775807 := hm
    simp only [if_true] at hmm
    have key : ∀ i, i < n → ∃ x : Cel, V0 i = .int .i64 x.1 ∧ V1 i = .int .i64 x.2 ∧ (-9223372036854775808 ≤ x.2 ∧ x.2 ≤ 9223372036854775807) := by
      intro i hin
      obtain ⟨_, _, k0, k1⟩ := hi i (by omega)
      obtain ⟨z0, hz0, _, _⟩ := DataW.trod_int u0 k0
      obtain ⟨z1, hz1, _, hw1⟩ := DataW.trod_int u1 k1
      simp at hz0 hz1
      exact ⟨(z0, z1), hz0, hz1, bounds_i64 hw1⟩
    have hlist : ∀ m', m' ≤ n → ∃ l : List Cel, l.length = m' ∧ (∀ x ∈ l, -9223372036854775808 ≤ x.2 ∧ x.2 ≤ 9223372036854775807) ∧ ∀ i, i < m' → V0 i = .int .i64 (l.getD i (0, 0)).1 ∧ V1 i = .int .i64 (l.getD i (0, 0)).2 := by
      intro m'
      induction m' with
      | zero => exact fun _ => ⟨[], rfl, by simp, fun i hi => absurd hi (Nat.not_lt_zero i)⟩
      | succ m' ih =>
        intro hmn
        obtain ⟨l, hl1, hl2, hl3⟩ := ih (by omega)
        obtain ⟨x, hx0, hx1, hx2⟩ := key m' (by omega)
        refine ⟨l ++ [x], by simp [hl1], fun y hy => ?_, fun i hi' => ?_⟩
        · rcases List.mem_append.1 hy with h8 | h8
          · exact hl2 y h8
          · rw [List.mem_singleton.1 h8]; exact hx2
        · by_cases e' : i < m'
          · have h9 := hl3 i e'
            rw [List.getD_eq_getElem?_getD] at h9 ⊢
            rwa [List.getElem?_append_left (by omega)]
          · obtain rfl : i = m' := by omega
            rw [List.getD_eq_getElem?_getD, List.getElem?_append_right (by omega), hl1]
            simpa using ⟨hx0, hx1⟩
    obtain ⟨l, hl1, hl2, hl3⟩ := hlist n (Nat.le_refl _)
    refine ⟨hl, hm', l, hl1, hl2, fun i hi' => ?_⟩
    have h0 := (hi 0 (by omega)).1
    rw [Nat.zero_mul] at h0
    obtain ⟨b, o, rfl, hb⟩ := addr_plain h0
    obtain ⟨h6, h7, _, _⟩ := hi i (by omega)
    obtain ⟨h8, h9⟩ := hl3 i (by omega)
    rw [add_plain] at h6 h7
    rw [h8] at h6
    rw [h9] at h7
    exact ⟨b, o, rfl, hb, h6, h7⟩
end Go.Proofs.YtnffdacajdjeoaaGreatDoor

namespace Go.Proofs.YtnffdacajdjeoaaGreatDoor
open Go.ChangeShapes Go.WideShapes Go.ChangeAt Go.RowKit
set_option linter.unusedVariables false
set_option linter.unusedSimpArgs false

theorem RttBlk.drewN {s : RttS} {C : Nat} {w : World} (h : RttBlk s C w) (n : Nat) : RttBlk s C (w.drewN n) := h
theorem RefRtt.drewN {k : Bool} {m v : Int} {q C : Nat} {w : World} (h : RefRtt k m v q C w) (n : Nat) : RefRtt k m v q C (w.drewN n) := h
theorem RttS.smooth_sample (s : RttS) (d : Int) (h : (s.sample d).known = false) : (s.sample d).smooth = 0 := by rw [RttS.known_sample] at h; cases h
set_option maxHeartbeats 8000000 in
set_option maxRecDepth 100000 in
theorem rttAll_walk (v : Value) (l : List Cel) (w : World) (hT : TabW w) (hv : ∃ p cap, v = .slice p l.length cap ∧ l.length ≤ cap ∧ cap ≤ 9223372036854775807 ∧ ∀ i, i < l.length → ∃ b o, p = some ⟨b, o, none⟩ ∧ b < w.heap.size ∧ w.cell? ⟨b, o + i * 2, none⟩ = some (.int .i64 (l.getD i (0, 0)).1) ∧ w.cell? ⟨b, o + i * 2 + 1, none⟩ = some (.int .i64 (l.getD i (0, 0)).2)) :
    Calls Tryz.prog 6 #[v] w fun e w' => e = .returned (.bool true) ∧ Below w.heap.size w w' := by
  have HBG : Hid (∀ W, Below w.heap.size w W → Calls Tryz.prog 18 #[] W fun e w' => e = .returned (.bool true) ∧ Below W.heap.size W w') := Lib.hid (fun W hb => begun8_any W (hT.below hb))
  clear hT
  obtain ⟨p, cap, rfl, hc1, hc2, hc⟩ := hv
  have HC0 := Lib.hid hc
  have hlen : l.length ≤ 9223372036854775807 := Nat.le_trans hc1 hc2
  clear hc1 hc2
  obtain ⟨N, hN⟩ : ∃ N, l.length = N := ⟨_, rfl⟩
  rw [hN] at HC0 hlen ⊢
  clear hc hN
  go_enter Tryz.func6, Tryz.ntmps6
  go_wp2_with (first
    | (go_at_call 18; refine (HBG.out _ (by first | exact Below.refl _ _ | exact bel_alloc _ _ | exact bel_trans (bel_alloc _ _) (bel_alloc _ _))).mono ?_; rintro e w0 ⟨rfl, hb0⟩)
    | (go_at_call 38; refine (rttNew_any _).mono ?_; rintro e w1 ⟨rfl, rfl⟩))
  obtain ⟨W1, hW1⟩ : ∃ W1, (w0.alloc (.cells (rttCells RttS.zero) 112)).alloc (.cells (refRttCells false 0 0 0) 52) = W1 := ⟨_, rfl⟩
  have HB0 : Hid (RttBlk RttS.zero w0.heap.size W1) := Lib.hid (by rw [← hW1]; exact BlkIs.alloc (BlkIs.new _ _ _) _)
  have HD0 : Hid (RefRtt false 0 0 0 (w0.heap.size + 1) W1) := Lib.hid (by
    rw [← hW1]
    have h := BlkIs.new (refRttCells false 0 0 0) 52 (w0.alloc (.cells (rttCells RttS.zero) 112))
    simp only [World.size_alloc] at h
    exact h)
  have HW0 : Hid (Below w.heap.size w W1) := Lib.hid (by rw [← hW1]; exact bel_trans hb0 (bel_trans (bel_alloc _ _) (bel_alloc _ _)))
  have HC : Hid (w.heap.size ≤ w0.heap.size) := Lib.hid hb0.size
  rw [show (w0.alloc (.cells (rttCells RttS.zero) 112)).alloc (.cells #[.bool false, .int .i64 0, .int .i64 0, .int .i64 0] 52) = W1 from hW1]
  clear hb0 hW1
  obtain ⟨C, hCe⟩ : ∃ C, w0.heap.size = C := ⟨_, rfl⟩
  rw [hCe] at HB0 HD0 HC ⊢
  obtain ⟨D, hDe⟩ : ∃ D, C + 1 = D := ⟨_, rfl⟩
  have HCD : Hid (C ≠ D ∧ w.heap.size ≤ D) := Lib.hid (by have := HC.out; omega)
  rw [hDe] at HD0 ⊢
  clear hCe hDe
  go_loopw [6] (fun i wr => ∃ (k : Nat) (s : RttS) (q : Nat), k ≤ N ∧ k ≤ 60 ∧ q ≤ k ∧ i = .int .i64 (k : Int) ∧ Hid (s.ok ∧ (s.known = false → s.smooth = 0) ∧ s.likeB s.known s.smooth s.spread q ∧ (k = 0 → s = RttS.zero)) ∧ Hid (RttBlk s C wr) ∧ Hid (RefRtt s.known s.smooth s.spread q D wr) ∧ Hid (Below w.heap.size w wr)) (fun i _ => N - (intOf i).toNat)
  case atStart => exact ⟨0, RttS.zero, 0, Nat.zero_le _, Nat.zero_le _, Nat.le_refl _, rfl, Lib.hid ⟨RttS.ok_zero, fun _ => rfl, RttS.like_zero, fun _ => rfl⟩, HB0, HD0, HW0⟩
  case round =>
    obtain ⟨k, s, q, hk, hk60, hq, rfl, hs, hbk, hdk, hwk⟩ := hrel
    by_cases hlt : k < N ∧ k < 60
    · obtain ⟨hl1, hl2⟩ := hlt
      obtain ⟨b, o, rfl, hb, hcell, hcell2⟩ := HC0.out k hl1
      rw [← hwk.out.cell (p := ⟨b, o + k * 2, none⟩) hb] at hcell
      rw [← hwk.out.cell (p := ⟨b, o + k * 2 + 1, none⟩) hb] at hcell2
      have HCELL : Hid (∀ W, Kept [C] wr W → W.cell? ⟨b, o + k * 2 + 1, none⟩ = wr.cell? ⟨b, o + k * 2 + 1, none⟩) := Lib.hid (fun W h => World.cell?_of_block (h.block b (Nat.lt_of_lt_of_le hb hwk.out.size) (by
        have := HC.out
        intro hm
        simp at hm
        omega)))
      generalize l.getD k (0, 0) = x at *
      obtain ⟨kd, d⟩ := x
      simp only at hcell hcell2
      -- what the round leaves
      have fin : ∃ (s2 : RttS) (q2 : Nat), q2 ≤ k + 1 ∧ (s2.ok ∧ (s2.known = false → s2.smooth = 0) ∧ s2.likeB s2.known s2.smooth s2.spread q2) ∧ ((kd = 0 ∧ s2 = s.sample d ∧ q2 = 0) ∨ (kd ≠ 0 ∧ s2 = s.back ∧ q2 = q + 1)) := by
        by_cases h : kd = 0
        · exact ⟨s.sample d, 0, by omega, ⟨hs.out.1.sample d, RttS.smooth_sample s d, by have := RttS.like_sample s d; rw [← RttS.known_sample s d] at this; exact this⟩, .inl ⟨h, rfl, rfl⟩⟩
        · exact ⟨s.back, q + 1, by omega, ⟨hs.out.1.back, hs.out.2.1, hs.out.2.2.1.back hs.out.1⟩, .inr ⟨h, rfl, rfl⟩⟩
      obtain ⟨s2, q2, hq2, hs2, hways⟩ := fin
      have HS2 := Lib.hid hs2
      obtain ⟨V, hV⟩ : ∃ V, s2.rto = V := ⟨_, rfl⟩
      have hVb := hs2.1.rto
      have HR1 : Hid (∀ W, RttBlk s2 C W → Calls Tryz.prog 43 #[.pointer (some ⟨C, 0, none⟩)] W fun e w' => e = .returned (.int .i64 V) ∧ ∃ n, w' = W.drewN n) := Lib.hid (fun W hW => by
        have h1 := rttRto_any _ HS2.out.1 C W hW
        rw [hV] at h1
        exact h1)
      have HR2 : Hid (∀ W, RefRtt s2.known s2.smooth s2.spread q2 D W → Calls Tryz.prog 44 #[.pointer (some ⟨D, 0, none⟩)] W fun e w' => e = .returned (.int .i64 V) ∧ ∃ n, w' = W.drewN n) := Lib.hid (fun W hW => by
        have h1 := refRto_any _ _ _ HS2.out.1.s0 HS2.out.1.s1 q2 (by omega) D W hW
        rw [← HS2.out.2.2.e3, hV] at h1
        exact h1)
      have HSM : Hid (∀ W, RttBlk s2 C W → Calls Tryz.prog 42 #[.pointer (some ⟨C, 0, none⟩)] W fun e w' => e = .returned (.tuple #[.int .i64 s2.smooth, .bool s2.known]) ∧ W = w') := Lib.hid (fun W hW => by
        have h1 := rttSmooth_any _ C W hW
        have e : (if s2.known = true then s2.smooth else 0) = s2.smooth := by
          by_cases h : s2.known = true
          · rw [if_pos h]
          · rw [if_neg h, HS2.out.2.1 (by simpa using h)]
        rw [e] at h1
        exact h1)
      rw [hV] at hVb
      obtain ⟨v1, v2⟩ := hVb
      clear hb hs2 hV
      rcases hways with ⟨hkd, rfl, rfl⟩ | ⟨hkd, rfl, rfl⟩
      · subst hkd
        have HSA := Lib.hid (rttSample_any s hs.out.1 d C wr hbk.out)
        have HRA : Hid (∀ W, RefRtt s.known s.smooth s.spread q D W → _) := Lib.hid (fun W hW => refSample_any s hs.out.1 d q D W hW)
        go_upto_region 13 with (first
          | (go_at_call 39; (with_reducible refine HSA.out.mono ?_); rintro e w1 ⟨rfl, hb1, hk1⟩; have HB1 := Lib.hid hb1; have HW1 := Lib.hid (kept_bel1 hwk.out hk1 HC.out); have HD1 : Hid (RefRtt s.known s.smooth s.spread q D w1) := Lib.hid (BlkIs.kept hdk.out hk1 (by simp; exact fun h => HCD.out.1 h.symm)); have hc3 := (HCELL.out w1 hk1).trans hcell2; clear hb1 hk1)
          | (go_at_call 40; (with_reducible refine (HRA.out _ HD1.out).mono ?_); rintro e w2 ⟨rfl, hb2, hk2⟩; have HB2 : Hid (RttBlk (s.sample d) C w2) := Lib.hid (BlkIs.kept HB1.out hk2 (by simp; exact HCD.out.1)); have HW2 := Lib.hid (kept_bel1 HW1.out hk2 HCD.out.2); have HD2 : Hid (RefRtt true (s.sample d).smooth (s.sample d).spread 0 D w2) := Lib.hid hb2; clear hb2 hk2))
        have HD3 : Hid (RefRtt (s.sample d).known (s.sample d).smooth (s.sample d).spread 0 D w2) := Lib.hid (by rw [RttS.known_sample]; exact HD2.out)
        obtain ⟨⟨x0, x1, x2, x3⟩, _⟩ := HD3.out.at_
        generalize s.sample d = t at *
        clear HSA HRA HB1 HD1 HD2 HW1 hc3 hcell hcell2 HCELL hbk hdk hwk
        go_wp2_with (first
          | (go_at_call 42; (with_reducible refine (HSM.out _ HB2.out).mono ?_); rintro e w3 ⟨rfl, rfl⟩)
          | (go_at_call 43; (with_reducible refine (HR1.out _ (RttBlk.drewN HB2.out _)).mono ?_); rintro e w3 ⟨rfl, r1, rfl⟩)
          | (go_at_call 43; (with_reducible refine (HR1.out _ HB2.out).mono ?_); rintro e w3 ⟨rfl, r2, rfl⟩)
          | (go_at_call 44; (with_reducible refine (HR2.out _ (RefRtt.drewN HD3.out _)).mono ?_); rintro e w3 ⟨rfl, r3, rfl⟩))
        go_roundw
        case rel => exact ⟨k + 1, t, 0, by omega, by omega, by omega, by go_num, Lib.hid ⟨HS2.out.1, HS2.out.2.1, HS2.out.2.2, fun h => by omega⟩, Lib.hid (BlkIs.drewN HB2.out _), Lib.hid (BlkIs.drewN HD3.out _), Lib.hid (bel_trans HW2.out (bel_drewN _ _))⟩
        case measure => simp [intOf]; omega
      · have hbn : (kd == 0) = false := by rw [beq_eq_false_iff_ne]; exact hkd
        have HBA := Lib.hid (rttBack_any s hs.out.1 C wr hbk.out)
        obtain ⟨⟨y0, y1, y2, y3⟩, z0, z1, z2, z3⟩ := hdk.out.at_
        have HY : Hid (∀ W, Kept [C] wr W → W.cell? ⟨D, 3, none⟩ = some (.int .i64 (q : Int)) ∧ W.frozen? ⟨D, 3, none⟩ = false ∧ RefRtt s.known s.smooth s.spread q D W) := Lib.hid (fun W hW => by
          have h1 : RefRtt s.known s.smooth s.spread q D W := BlkIs.kept hdk.out hW (by simp; exact fun h => HCD.out.1 h.symm)
          exact ⟨h1.at_.1.2.2.2, h1.at_.2.2.2.2, h1⟩)
        clear y0 y1 y2 y3 z0 z1 z2 z3
        go_upto_region 13 with (go_at_call 41; (with_reducible refine HBA.out.mono ?_); rintro e w1 ⟨rfl, hb1, hk1⟩; obtain ⟨y3, z3, hd1⟩ := HY.out w1 hk1; have HB1 := Lib.hid hb1; have HW1 := Lib.hid (kept_bel1 hwk.out hk1 HC.out); have HD1 := Lib.hid hd1; clear hb1 hk1 hd1)
        obtain ⟨w2, hw2⟩ : ∃ w2, w1.setCell ⟨D, 3, none⟩ (.int .i64 ((q : Int) + 1)) = w2 := ⟨_, rfl⟩
        have HB2 : Hid (RttBlk s.back C w2) := Lib.hid (by rw [← hw2]; exact BlkIs.far HB1.out HCD.out.1 _)
        have HD3 : Hid (RefRtt s.back.known s.back.smooth s.back.spread (q + 1) D w2) := Lib.hid (by
          rw [← hw2]
          have h1 := BlkIs.set HD1.out 3 (.int .i64 ((q : Int) + 1))
          exact h1)
        have HW2 : Hid (Below w.heap.size w w2) := Lib.hid (by rw [← hw2]; exact HW1.out.setCell (p := ⟨D, 3, none⟩) HCD.out.2 _)
        rw [hw2]
        obtain ⟨⟨x0, x1, x2, x3⟩, _⟩ := HD3.out.at_
        generalize s.back = t at *
        clear HBA HB1 HD1 HW1 hw2 y3 z3 HY hcell hcell2 HCELL hbk hdk hwk
        go_wp2_with (first
          | (go_at_call 42; (with_reducible refine (HSM.out _ HB2.out).mono ?_); rintro e w3 ⟨rfl, rfl⟩)
          | (go_at_call 43; (with_reducible refine (HR1.out _ (RttBlk.drewN HB2.out _)).mono ?_); rintro e w3 ⟨rfl, r1, rfl⟩)
          | (go_at_call 43; (with_reducible refine (HR1.out _ HB2.out).mono ?_); rintro e w3 ⟨rfl, r2, rfl⟩)
          | (go_at_call 44; (with_reducible refine (HR2.out _ (RefRtt.drewN HD3.out _)).mono ?_); rintro e w3 ⟨rfl, r3, rfl⟩))
        go_roundw
        case rel => exact ⟨k + 1, t, q + 1, by omega, by omega, by omega, by go_num, Lib.hid ⟨HS2.out.1, HS2.out.2.1, HS2.out.2.2, fun h => by omega⟩, Lib.hid (BlkIs.drewN HB2.out _), Lib.hid (BlkIs.drewN HD3.out _), Lib.hid (bel_trans HW2.out (bel_drewN _ _))⟩
        case measure => simp [intOf]; omega
    · have hn2 : ¬ (k < N ∧ k < 60) := hlt
      have hz : N = 0 → k = 0 := fun h => by omega
      by_cases h0 : N = 0
      · have hk0 := hz h0
        subst h0
        subst hk0
        have HR := Lib.hid (rttRto_any s hs.out.1 C wr hbk.out)
        rw [hs.out.2.2.2 rfl] at HR
        have HR3 : Hid (Calls Tryz.prog 43 #[.pointer (some ⟨C, 0, none⟩)] wr fun e w' => e = .returned (.int .i64 3000000) ∧ ∃ n, w' = wr.drewN n) := HR
        go_wp2_with (go_at_call 43; (with_reducible refine HR3.out.mono ?_); rintro e w3 ⟨rfl, r1, rfl⟩)
        go_ret
        exact ⟨rfl, bel_trans hwk.out (bel_drewN _ _)⟩
      · have hpos : 0 < N := by omega
        have hnn : k < N ∨ ¬ k < N := by omega
        clear hz h0
        rcases hnn with hn | hn
        all_goals
          have hd2 : k < N → ¬ k < 60 := fun h h2 => hn2 ⟨h, h2⟩
          have hd3 : ¬ (k < N) ∨ ¬ (k < 60) := by omega
          go_wp2
          go_ret
          exact ⟨rfl, hwk.out⟩
end Go.Proofs.YtnffdacajdjeoaaGreatDoor
