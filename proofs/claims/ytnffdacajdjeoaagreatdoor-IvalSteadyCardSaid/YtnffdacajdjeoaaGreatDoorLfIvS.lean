/-
  Rows of unsigned numbers: of the call's own, grown, written.
  The law IvalSteady, walked.
-/
import Derived.Test.YtnffdacajdjeoaaGreatDoorIvalA
import Derived.Laws.AppendOwn
import Derived.Lib.FrozenHead
import Derived.Test.YtnffdacajdjeoaaGreatDoorIvalC
import Derived.Test.YtnffdacajdjeoaaGreatDoorBegun8
namespace Go.Proofs.YtnffdacajdjeoaaGreatDoor
open Go.ChangeShapes Go.WideShapes Go.ChangeAt Go.RowKit
set_option linter.unusedVariables false
set_option linter.unusedSimpArgs false

theorem infoU64 : (Tryz.prog.info? 41).map (fun i => (i.zero, i.size, i.bytes)) = some (some (.int .u64 0), 1, 8) := by kernel_rfl
def u64V (n : Nat) : Value := .int .u64 n
/-- A row of numbers that the call owns from block B on; below B nothing has turned since W0. -/
def U64Own (B : Nat) (v : Value) (l : List Nat) (W0 w : World) : Prop := w.ownsRow B 41 1 v l.length (l.map u64V) ∧ Below B W0 w ∧ B ≤ w.heap.size
theorem U64Own.nil (w : World) : U64Own w.heap.size (.slice none 0 0) [] w w := ⟨World.ownsRow_nil _ _ _ _, Below.refl _ _, Nat.le_refl _⟩
theorem U64Own.kept {B : Nat} {v : Value} {l : List Nat} {W0 w w' : World} (h : U64Own B v l W0 w) (hb : Below w.heap.size w w') : U64Own B v l W0 w' := by
  refine ⟨h.1.kept (row := none) ⟨hb.os, hb.tape, hb.output, hb.size, fun k hk _ => hb.block k hk⟩ ?_, h.2.1.trans (hb.mono h.2.2), Nat.le_trans h.2.2 hb.size⟩
  cases v.ownBlock <;> simp
theorem U64Own.at {B : Nat} {v : Value} {l : List Nat} {W0 w : World} (h : U64Own B v l W0 w) (hl : l.length ≤ 1073741824) (hs : ∀ i, l.getD i 0 < 18446744073709551616) : U64At w v l := by
  refine ⟨?_, hl, hs⟩
  rcases h.1.2 with ⟨rfl, h0⟩ | ⟨g, cap, cur, rfl, _, hg, hcap, hcm, _, ht⟩
  · exact ⟨none, 0, by rw [h0], by omega, by decide, fun i hi => by omega⟩
  · have hlt : g < w.heap.size := by
      rcases Nat.lt_or_ge g w.heap.size with hlt | hge
      · exact hlt
      · rw [Array.getElem?_eq_none hge] at hg; cases hg
    refine ⟨some ⟨g, 0, none⟩, cap, rfl, hcap, by unfold maxLen at hcm; omega, fun i hi => ⟨g, 0, rfl, hlt, ?_⟩⟩
    rw [cell_of_row w g (0 + i) cur _ _ hg, Nat.zero_add, ← Array.getElem?_toList]
    have h2 : (l.map u64V)[i]? = some (.int .u64 (l.getD i 0)) := by
      rw [List.getElem?_map, List.getElem?_eq_getElem hi, List.getD_eq_getElem?_getD, List.getElem?_eq_getElem hi]; rfl
    rw [← ht, List.getElem?_take_of_lt (by omega)] at h2
    exact h2
/-- A slice of numbers appended. -/
theorem wp_u64s {ops : Array Oper} {rest : List Oper} {o : Oper} {a : Act} {Q : Exit → Act → World → Prop} (hgd : o.guard = none) (s x : Operand)
    (ho : o.op = .call { callee := .builtin .append, args := #[s, x], argTypes := #[42, 42] })
    (B : Nat) (v : Value) (l m : List Nat) (hs : a.eval s = v) (W0 w : World) (hb : U64Own B v l W0 w) (b : Nat) (q c : Nat)
    (hx : a.eval x = .slice (some ⟨b, q, none⟩) m.length c) (hm : ∀ i, i < m.length → w.cell? ⟨b, q + i, none⟩ = some (.int .u64 (m.getD i 0))) (hlen : l.length ≤ 1073741824) (hlen2 : m.length ≤ 1073741824)
    (h : ∀ v' w', U64Own B v' (l ++ m) W0 w' → wpList Tryz.prog ops Q rest (a.put o.dst v') w') : wpList Tryz.prog ops Q (o :: rest) a w := by
  obtain ⟨i0, hi, hz0, hz1, hz2⟩ := info_parts infoU64
  refine wpList_append_own _ hgd s x 42 ho B 41 i0 (.int .u64 0) 1 8 Tryz.underlying42 hi hz0 hz1 hz2 rfl (by decide) v l.length (l.map u64V) hs hb.1 ⟨b, q, none⟩ m.length c (m.map u64V) hx (by simp) (fun j u hu => ?_) (fun u hu => ?_) (by unfold maxLen; omega) (by omega) hb.2.2 ?_
  · have hj : j < m.length := by
      rcases Nat.lt_or_ge j m.length with h1 | h1
      · exact h1
      · rw [List.getElem?_eq_none (by simpa using h1)] at hu; cases hu
    rw [List.getElem?_map, List.getElem?_eq_getElem hj] at hu
    have hc := hm j hj
    rw [List.getD_eq_getElem?_getD, List.getElem?_eq_getElem hj] at hc
    rw [show (⟨b, q, none⟩ : Addr).add j = ⟨b, q + j, none⟩ from by unfold Addr.add; split <;> simp_all, hc]
    simpa [u64V] using hu
  · obtain ⟨n, _, rfl⟩ := List.mem_map.1 hu; rfl
  · intro v' w' ho' hg _
    refine h v' w' ⟨?_, hb.2.1.grown hg hb.2.2 (fun k hk => (hb.1.lt k hk).1), Nat.le_trans hb.2.2 hg.size⟩
    rw [List.length_append, List.map_append]
    exact ho'
end Go.Proofs.YtnffdacajdjeoaaGreatDoor

namespace Go.Proofs.YtnffdacajdjeoaaGreatDoor
open Go.ChangeShapes Go.WideShapes Go.ChangeAt Go.RowKit
set_option linter.unusedVariables false
set_option linter.unusedSimpArgs false

theorem rep_getD (k n i : Nat) (hn : n < 18446744073709551616) : (List.replicate k n).getD i 0 < 18446744073709551616 := by
  rw [List.getD_eq_getElem?_getD, List.getElem?_replicate]
  split
  · exact hn
  · decide
theorem tmod_lim8 (n m : Int) (hm : 0 < m) : -m < n.tmod m ∧ n.tmod m < m := by
  by_cases h : 0 ≤ n
  · rw [Int.tmod_eq_emod_of_nonneg h]
    have := Int.emod_nonneg n (show m ≠ 0 by omega)
    have := Int.emod_lt_of_pos n hm
    omega
  · have e : n.tmod m = -((-n).tmod m) := by rw [Int.neg_tmod]; omega
    rw [e, Int.tmod_eq_emod_of_nonneg (by omega)]
    have := Int.emod_nonneg (-n) (show m ≠ 0 by omega)
    have := Int.emod_lt_of_pos (-n) hm
    omega

set_option maxHeartbeats 4000000 in
set_option maxRecDepth 100000 in
theorem ivalSteady_walk (n : Nat) (hn : n < 18446744073709551616) (k : Int) (k1 : -9223372036854775808 ≤ k) (k2 : k ≤ 9223372036854775807) (w : World) (hT : TabW w) :
    Calls Tryz.prog 11 #[.int .u64 n, .int .i64 k] w fun e w' => e = .returned (.bool true) ∧ Below w.heap.size w w' := by
  have HBG : Hid (∀ W, Below w.heap.size w W → Calls Tryz.prog 18 #[] W fun e w' => e = .returned (.bool true) ∧ Below W.heap.size W w') := Lib.hid (fun W hb => begun8_any W (hT.below hb))
  obtain ⟨r, hr⟩ : ∃ q : Nat, n % 1099511627776 = q := ⟨_, rfl⟩
  have hr2 : r < 1099511627776 := by omega
  have en : (n : Int) % 1099511627776 = (r : Int) := by omega
  obtain ⟨N, hN⟩ : ∃ q : Nat, 1 + r = q := ⟨_, rfl⟩
  have eN : (1 : Int) + (r : Int) = (N : Int) := by omega
  have hN2 : 0 < N ∧ N ≤ 1099511627776 := by omega
  obtain ⟨d1, d2⟩ := tmod_lim8 k 10 (by decide)
  obtain ⟨a, ha⟩ : ∃ a, k.tmod 10 = a := ⟨_, rfl⟩
  rw [ha] at d1 d2
  have d5 : 0 ≤ (a + 10).tmod 10 := Int.tmod_nonneg _ (by omega)
  obtain ⟨d3, d4⟩ := tmod_lim8 (a + 10) 10 (by decide)
  obtain ⟨b, hb⟩ : ∃ b, (a + 10).tmod 10 = b := ⟨_, rfl⟩
  rw [hb] at d3 d4 d5
  obtain ⟨K, hK⟩ : ∃ K : Nat, 1 + b = (K : Int) := ⟨(1 + b).toNat, by omega⟩
  have hK2 : 0 < K ∧ K ≤ 10 := by omega
  have HST := Lib.hid (M.steady N K hN2.1 hN2.2 hK2.1)
  have HT := Lib.hid hT
  clear hT hr hN hn
  go_enter Tryz.func11, Tryz.ntmps11
  go_wp2_with (go_at_call 18; refine (HBG.out _ (by first | exact Below.refl _ _ | exact bel_alloc _ _ | exact bel_trans (bel_alloc _ _) (bel_alloc _ _))).mono ?_; rintro e w5 ⟨rfl, hb0⟩)
  have HB5 := Lib.hid hb0
  have HNIL := Lib.hid (U64Own.nil w5)
  clear hb0 en eN ha hb hK
  go_loopw [6, 7] (fun v i wr => ∃ j : Nat, i = .int .i64 (j : Int) ∧ j ≤ K ∧ Hid (U64Own w5.heap.size v (List.replicate j N) w5 wr)) (fun _ i _ => K - (intOf i).toNat)
  case atStart => exact ⟨0, rfl, by omega, HNIL⟩
  case round =>
    obtain ⟨j, rfl, hj, hown⟩ := hrel
    by_cases hjk : j < K
    · have HCELL : Hid (∀ i, i < ([N] : List Nat).length → (wr.alloc (.cells #[.int .u64 N] 41)).cell? ⟨wr.heap.size, 0 + i, none⟩ = some (.int .u64 (([N] : List Nat).getD i 0))) := Lib.hid (fun i hi => by
        have : i = 0 := by simp at hi; omega
        subst this
        rw [cell_of_row _ _ _ _ _ _ (heap_alloc_new wr _)]; rfl)
      go_upto_region 9 with (at_builtin; refine wp_u64s rfl _ _ rfl w5.heap.size u6 (List.replicate j N) [N] rfl w5 _ (hown.out.kept (bel_alloc wr _)) wr.heap.size 0 1 rfl HCELL.out (by rw [List.length_replicate]; omega) (by simp) ?_; intro v2 w9 ho9)
      have HO9 : Hid (U64Own w5.heap.size v2 (List.replicate (j + 1) N) w5 w9) := Lib.hid (by rw [List.replicate_succ']; exact ho9)
      clear ho9 HCELL hown
      go_wp2
      refine ⟨⟨j + 1, by go_num, by omega, HO9⟩, ?_⟩
      simp [intOf]; omega
    · obtain rfl : j = K := by omega
      have hat := hown.out.at (by rw [List.length_replicate]; omega) (fun i => rep_getD j N i (by omega))
      have HTR : Hid (TabW wr) := Lib.hid (HT.out.below (bel_trans HB5.out hown.out.2.1))
      have HBR : Hid (Below w.heap.size w wr) := Lib.hid (bel_trans HB5.out hown.out.2.1)
      obtain ⟨s1, s2, s3⟩ := HST.out
      obtain ⟨q, hq⟩ : ∃ q, 4294967296 / N = q := ⟨_, rfl⟩
      have eq1 : (4294967296 : Int) / (N : Int) = (q : Int) := by rw [← hq]; simp
      have hq2 : q ≤ 4294967296 := by rw [← hq]; exact Nat.div_le_self _ _
      have emq : min (4294967296 : Int) (q : Int) = (q : Int) := by omega
      have hNz : ¬ N = 0 := by omega
      rw [hq, show min 4294967296 q = q by omega] at s3
      have HM0 : Hid (∀ m, Calls Tryz.prog 35 #[.int .u64 0, u6] (wr.drewN m) fun e w' => e = .returned (.int .u64 N) ∧ ∃ n, w' = (wr.drewN m).drewN n) := Lib.hid (fun m => by
        have h := mean_any 0 u6 (List.replicate j N) (by decide) (wr.drewN m) (HTR.out.drewN m) (hat.drewN m)
        rwa [s1] at h)
      have HM1 : Hid (∀ m, Calls Tryz.prog 35 #[.int .u64 N, u6] (wr.drewN m) fun e w' => e = .returned (.int .u64 N) ∧ ∃ n, w' = (wr.drewN m).drewN n) := Lib.hid (fun m => by
        have h := mean_any N u6 (List.replicate j N) (by omega) (wr.drewN m) (HTR.out.drewN m) (hat.drewN m)
        rwa [s2] at h)
      have HR1 : Hid (∀ m, Calls Tryz.prog 33 #[.int .u64 N, u6] (wr.drewN m) fun e w' => e = .returned (.int .u64 q) ∧ ∃ n, w' = (wr.drewN m).drewN n) := Lib.hid (fun m => by
        have h := rate_any N u6 (List.replicate j N) (by omega) (wr.drewN m) (HTR.out.drewN m) (hat.drewN m)
        rwa [s3] at h)
      clear hat s1 s2 s3 hq hown HNIL HST HT
      go_upto_region 11 with fail
      go_quiet ((first
        | (go_at_call 35; first | (with_reducible exact Calls.quiet_of (HM0.out _)) | (with_reducible exact Calls.quiet_of (HM1.out _)))
        | (go_at_call 33; with_reducible exact Calls.quiet_of (HR1.out _))))
      have HBZ : Hid (Below w.heap.size w (wr.drewN nq)) := Lib.hid (bel_trans HBR.out (bel_drewN _ _))
      go_wp2
      go_ret
      exact ⟨rfl, HBZ.out⟩
end Go.Proofs.YtnffdacajdjeoaaGreatDoor
