/-
  Intervals weighed: the pure sums of package ival and of the document.
  Package ival and the document's sums: contracts.
  Package ival and the document's sums: means and rates.
-/
import Derived.Test.YtnhlachoimlhhaaGreatDoorMatW
import Derived.Test.YtnhlachoimlhhaaGreatDoorFixM
import Derived.BigQuiet
namespace Go.Proofs.YtnhlachoimlhhaaGreatDoor
open Go
namespace M
def wt (i : Nat) : Nat := [5, 5, 5, 5, 4, 3, 2, 1].getD i 0
def wTot (k : Nat) : Nat := [0, 5, 10, 15, 20, 24, 27, 29, 30].getD k 30
/-- The lengths, each by its weight, the first one at place p. -/
def wSum : List Nat → Nat → Nat
  | [], _ => 0
  | x :: l, p => x * wt p + wSum l (p + 1)
def wFold : Nat → List Nat → Nat → Nat
  | s, [], _ => s
  | s, x :: l, p => wFold (addT s (mulT x (wt p))) l (p + 1)
theorem addT_min (a b : Nat) : addT a b = min (a + b) 18446744073709551615 := by unfold addT; split <;> omega
theorem mulT_min (a b : Nat) : mulT a b = min (a * b) 18446744073709551615 := by unfold mulT; split <;> omega
theorem wFold_eq : ∀ (l : List Nat) (s p : Nat), s ≤ 18446744073709551615 → wFold s l p = min (s + wSum l p) 18446744073709551615
  | [], s, p, h => by unfold wFold wSum; omega
  | x :: l, s, p, h => by
    unfold wFold wSum
    have h2 : addT s (mulT x (wt p)) ≤ 18446744073709551615 := by rw [addT_min]; omega
    rw [wFold_eq l _ _ h2, addT_min, mulT_min]
    generalize x * wt p = y
    generalize wSum l (p + 1) = z
    omega
theorem wFold_snoc : ∀ (l : List Nat) (s p x : Nat), wFold s (l ++ [x]) p = addT (wFold s l p) (mulT x (wt (p + l.length)))
  | [], s, p, x => by simp [wFold]
  | y :: l, s, p, x => by
    rw [List.cons_append]
    unfold wFold
    rw [wFold_snoc l _ _ x, List.length_cons, show p + 1 + l.length = p + (l.length + 1) by omega]
/-- The weights' sum, and the greater one of the sums with and without the open one. -/
def weighLen (o : Nat) (c : List Nat) : Nat :=
  let l := c.take 8
  max (wFold (mulT o 5) (l.take (l.length - 1)) 1) (wFold 0 l 0)
def weighTot (c : List Nat) : Nat := wTot (c.take 8).length
def mean (o : Nat) (c : List Nat) : Nat := if c = [] then 0 else weighLen o c / weighTot c
def lossRate (o : Nat) (c : List Nat) : Nat := if c = [] then 0 else min (mulDivT (weighTot c) 4294967296 (weighLen o c)) 4294967296
theorem weighLen_eq (o : Nat) (c : List Nat) : weighLen o c = max (min (o * 5 + wSum ((c.take 8).take ((c.take 8).length - 1)) 1) 18446744073709551615) (min (wSum (c.take 8) 0) 18446744073709551615) := by
  unfold weighLen
  simp only
  have h1 : mulT o 5 ≤ 18446744073709551615 := by rw [mulT_min]; omega
  rw [wFold_eq _ _ _ h1, wFold_eq _ _ _ (by omega), mulT_min]
  generalize wSum ((c.take 8).take ((c.take 8).length - 1)) 1 = y
  generalize o * 5 = z
  omega
theorem lossRate_le (o : Nat) (c : List Nat) : lossRate o c ≤ 4294967296 := by unfold lossRate; split <;> omega
theorem wSum_mono : ∀ (l m : List Nat) (p : Nat), l.length = m.length → (∀ i, l.getD i 0 ≤ m.getD i 0) → wSum l p ≤ wSum m p
  | [], [], _, _, _ => Nat.le_refl _
  | [], _ :: _, _, h, _ => by simp at h
  | _ :: _, [], _, h, _ => by simp at h
  | x :: l, y :: m, p, h, hi => by
    unfold wSum
    have h0 : x ≤ y := by simpa using hi 0
    have h1 := wSum_mono l m (p + 1) (by simpa using h) (fun i => by simpa using hi (i + 1))
    have h2 : x * wt p ≤ y * wt p := Nat.mul_le_mul_right _ h0
    omega
theorem wSum_rep (n : Nat) : ∀ k p, wSum (List.replicate k n) p = n * wSum (List.replicate k 1) p
  | 0, p => by simp [wSum]
  | k + 1, p => by
    rw [List.replicate_succ, List.replicate_succ]
    unfold wSum
    rw [wSum_rep n k (p + 1), Nat.one_mul, Nat.mul_add]
theorem wSum_ones : ∀ k : Fin 9, wSum (List.replicate k.val 1) 0 = wTot k.val ∧ (0 < k.val → 5 + wSum (List.replicate (k.val - 1) 1) 1 = wTot k.val) ∧ (0 < k.val → 0 < wTot k.val) := by decide
theorem wTot_pos (c : List Nat) (h : c ≠ []) : 0 < weighTot c ∧ weighTot c ≤ 30 := by
  unfold weighTot
  have h1 : 0 < (c.take 8).length := by
    rw [List.length_take]
    have : 0 < c.length := List.length_pos_iff.2 h
    omega
  have h2 : (c.take 8).length ≤ 8 := by rw [List.length_take]; omega
  generalize (c.take 8).length = k at *
  have : k = 1 ∨ k = 2 ∨ k = 3 ∨ k = 4 ∨ k = 5 ∨ k = 6 ∨ k = 7 ∨ k = 8 := by omega
  rcases this with rfl | rfl | rfl | rfl | rfl | rfl | rfl | rfl <;> decide
theorem mulDivT_mono (w a b : Nat) (h : a ≤ b) : mulDivT w 4294967296 b ≤ mulDivT w 4294967296 a := by
  unfold mulDivT
  by_cases ha : a = 0
  · rw [if_pos ha]
    split
    · exact Nat.le_refl _
    · split <;> omega
  · rw [if_neg ha, if_neg (by omega)]
    have h1 : w * 4294967296 / b ≤ w * 4294967296 / a := Nat.div_le_div_left h (by omega)
    split <;> split <;> omega
theorem lossRate_mono (o1 o2 : Nat) (c1 c2 : List Nat) (hl : c1.length = c2.length) (h : weighLen o1 c1 ≤ weighLen o2 c2) : lossRate o2 c2 ≤ lossRate o1 c1 := by
  unfold lossRate
  by_cases h0 : c1 = []
  · subst h0
    have : c2 = [] := List.eq_nil_of_length_eq_zero (by simpa using hl.symm)
    subst this
    rw [if_pos rfl]
    exact Nat.le_refl _
  · have h2 : c2 ≠ [] := fun e => h0 (List.eq_nil_of_length_eq_zero (by rw [hl, e]; rfl))
    rw [if_neg h0, if_neg h2]
    have ht : weighTot c1 = weighTot c2 := by unfold weighTot; rw [List.length_take, List.length_take, hl]
    rw [ht]
    have := mulDivT_mono (weighTot c2) _ _ h
    omega
theorem weighLen_mono (o1 o2 : Nat) (c1 c2 : List Nat) (ho : o1 ≤ o2) (hl : c1.length = c2.length) (h : ∀ i, c1.getD i 0 ≤ c2.getD i 0) : weighLen o1 c1 ≤ weighLen o2 c2 := by
  rw [weighLen_eq, weighLen_eq]
  have ht : (c1.take 8).length = (c2.take 8).length := by rw [List.length_take, List.length_take, hl]
  have hg : ∀ (c : List Nat) (n i : Nat), (c.take n).getD i 0 = if i < n then c.getD i 0 else 0 := fun c n i => by
    rw [List.getD_eq_getElem?_getD, List.getD_eq_getElem?_getD, List.getElem?_take]
    split <;> rfl
  have a1 := wSum_mono ((c1.take 8).take ((c1.take 8).length - 1)) ((c2.take 8).take ((c2.take 8).length - 1)) 1 (by rw [List.length_take (i := (c1.take 8).length - 1), List.length_take (i := (c2.take 8).length - 1), ht]) (fun i => by
    rw [hg, hg, hg, hg, ht]
    split
    · split
      · exact h i
      · exact Nat.le_refl _
    · exact Nat.le_refl _)
  have a2 := wSum_mono (c1.take 8) (c2.take 8) 0 ht (fun i => by
    rw [hg, hg]
    split
    · exact h i
    · exact Nat.le_refl _)
  have a3 : o1 * 5 ≤ o2 * 5 := Nat.mul_le_mul_right _ ho
  omega
/-- A loss in each so many. -/
theorem steady (n k : Nat) (hn : 0 < n) (hn2 : n ≤ 1099511627776) (hk : 0 < k) : mean 0 (List.replicate k n) = n ∧ mean n (List.replicate k n) = n ∧ lossRate n (List.replicate k n) = min 4294967296 (4294967296 / n) := by
  have hne : List.replicate k n ≠ [] := by cases k with | zero => omega | succ k => simp [List.replicate_succ]
  have ht : (List.replicate k n).take 8 = List.replicate (min 8 k) n := by rw [List.take_replicate]
  obtain ⟨j, hj⟩ : ∃ j, min 8 k = j := ⟨_, rfl⟩
  have hj8 : j ≤ 8 := by omega
  have hj0 : 0 < j := by omega
  obtain ⟨q1, q2, q3⟩ := wSum_ones ⟨j, by omega⟩
  simp only at q1 q2 q3
  have q2' := q2 hj0
  have q3' := q3 hj0
  have hw : weighTot (List.replicate k n) = wTot j := by unfold weighTot; rw [ht, List.length_replicate, hj]
  have hw30 : wTot j ≤ 30 := by have := (wTot_pos _ hne).2; rw [hw] at this; exact this
  have hB : wSum ((List.replicate k n).take 8) 0 = n * wTot j := by rw [ht, hj, wSum_rep, q1]
  have hA : wSum (((List.replicate k n).take 8).take (((List.replicate k n).take 8).length - 1)) 1 = n * wSum (List.replicate (j - 1) 1) 1 := by
    rw [ht, hj, List.length_replicate, List.take_replicate, wSum_rep n (min (j - 1) j)]
    rw [show min (j - 1) j = j - 1 by omega]
  obtain ⟨u, hu⟩ : ∃ u, wSum (List.replicate (j - 1) 1) 1 = u := ⟨_, rfl⟩
  obtain ⟨t, ht2⟩ : ∃ t, wTot j = t := ⟨_, rfl⟩
  rw [hu] at hA q2'
  rw [ht2] at hB hw hw30 q2' q3'
  have hnt : n * t ≤ 1099511627776 * 30 := Nat.mul_le_mul hn2 hw30
  have hnu : n * u + n * 5 = n * t := by rw [← Nat.mul_add, ← q2', Nat.add_comm u 5]
  have hL0 : weighLen 0 (List.replicate k n) = n * t := by rw [weighLen_eq, hA, hB]; omega
  have hLn : weighLen n (List.replicate k n) = n * t := by rw [weighLen_eq, hA, hB]; omega
  refine ⟨?_, ?_, ?_⟩
  · unfold mean; rw [if_neg hne, hL0, hw]; exact Nat.mul_div_cancel _ q3'
  · unfold mean; rw [if_neg hne, hLn, hw]; exact Nat.mul_div_cancel _ q3'
  · unfold lossRate
    rw [if_neg hne, hLn, hw]
    unfold mulDivT
    have hpos : 0 < n * t := Nat.mul_pos hn q3'
    have hq : t * 4294967296 / (n * t) = 4294967296 / n := by
      rw [Nat.mul_comm n t]; exact Nat.mul_div_mul_left _ _ q3'
    have hle : 4294967296 / n ≤ 4294967296 := Nat.div_le_self _ _
    rw [if_neg (by omega), hq, if_pos (by omega)]
    omega
/-- One interval. -/
theorem one (o n : Nat) (ho : o < 1125899906842624) (hn : n < 1125899906842624) : mean o [n] = max o n ∧ lossRate o [n] = if max o n = 0 then 4294967296 else min 4294967296 (4294967296 / max o n) := by
  have hw : weighTot [n] = 5 := rfl
  have hL : weighLen o [n] = max o n * 5 := by
    rw [weighLen_eq]
    have e1 : wSum ((([n] : List Nat).take 8).take ((([n] : List Nat).take 8).length - 1)) 1 = 0 := rfl
    have e2 : wSum (([n] : List Nat).take 8) 0 = n * 5 := by simp [wSum, wt]
    rw [e1, e2]
    omega
  refine ⟨?_, ?_⟩
  · unfold mean; rw [if_neg (by simp), hL, hw]; exact Nat.mul_div_cancel _ (by decide)
  · unfold lossRate
    rw [if_neg (by simp), hL, hw]
    by_cases h0 : max o n = 0
    · rw [if_pos h0, h0]; rfl
    · rw [if_neg h0]
      unfold mulDivT
      have hq : 5 * 4294967296 / (max o n * 5) = 4294967296 / max o n := by
        rw [Nat.mul_comm (max o n) 5]; exact Nat.mul_div_mul_left _ _ (by decide)
      have hle : 4294967296 / max o n ≤ 4294967296 := Nat.div_le_self _ _
      rw [if_neg (by omega), hq, if_pos (by omega)]
      omega
end M
end Go.Proofs.YtnhlachoimlhhaaGreatDoor

namespace Go.Proofs.YtnhlachoimlhhaaGreatDoor
open Go.ChangeShapes Go.WideShapes Go.ChangeAt Go.RowKit
set_option linter.unusedVariables false
set_option linter.unusedSimpArgs false

/-- The table of the weights. -/
def TabW (w : World) : Prop := ∀ i, i < 8 → w.cell? ⟨3, i, none⟩ = some (.int .u64 (M.wt i))
theorem TabW.drewN {w : World} (h : TabW w) (n : Nat) : TabW (w.drewN n) := h
theorem TabW.below {w w' : World} (h : TabW w) (hb : Below w.heap.size w w') : TabW w' := fun i hi => by
  have h0 := h i hi
  have hlt : 3 < w.heap.size := by
    rcases Nat.lt_or_ge 3 w.heap.size with h' | h'
    · exact h'
    · simp [World.cell?, Array.getElem?_eq_none h'] at h0
  rw [hb.cell (p := ⟨3, i, none⟩) hlt]; exact h0
theorem wt_le (i : Nat) : M.wt i ≤ 5 := by
  unfold M.wt
  rcases i with _ | _ | _ | _ | _ | _ | _ | _ | i <;> simp
theorem wt_far {i : Nat} (h : 8 ≤ i) : M.wt i = 0 := by
  unfold M.wt
  rw [List.getD_eq_getElem?_getD, List.getElem?_eq_none (by simpa using h)]; rfl
/-- What Weight answers at whatever place. -/
def wtI (i : Int) : Nat := if i < 0 then 0 else M.wt i.toNat
theorem wtI_nat (i : Nat) : wtI (i : Int) = M.wt i := by unfold wtI; rw [if_neg (by omega)]; rfl
theorem weight_any (i : Int) (h1 : -9223372036854775808 ≤ i) (h2 : i ≤ 9223372036854775807) (w : World) (hT : TabW w) :
    Calls Tryz.prog 213 #[.int .i64 i] w fun e w' => e = .returned (.int .u64 (wtI i)) ∧ w' = w := by
  by_cases h0 : i < 0
  · have e0 : decide (i < 0) = true := decide_eq_true h0
    have hv : wtI i = 0 := if_pos h0
    rw [hv]
    clear hT hv
    go_enter Tryz.func213, Tryz.ntmps213
    go_wp2
    go_ret
    exact ⟨rfl, rfl⟩
  · have e0 : decide (i < 0) = false := decide_eq_false h0
    by_cases h8 : 8 ≤ i
    · have e8 : decide (8 ≤ i) = true := decide_eq_true h8
      have hv : wtI i = 0 := by unfold wtI; rw [if_neg h0, wt_far (by omega)]
      rw [hv]
      clear hT hv
      go_enter Tryz.func213, Tryz.ntmps213
      go_wp2
      go_ret
      exact ⟨rfl, rfl⟩
    · have e8 : decide (8 ≤ i) = false := decide_eq_false h8
      obtain ⟨n, rfl⟩ := Int.eq_ofNat_of_zero_le (show 0 ≤ i by omega)
      have hc := hT n (by omega)
      rw [wtI_nat]
      generalize M.wt n = v at *
      clear hT
      go_enter Tryz.func213, Tryz.ntmps213
      go_wp2
      go_ret
      exact ⟨rfl, rfl⟩

/-- A slice of unsigned numbers in memory. -/
structure U64At (w : World) (v : Value) (l : List Nat) : Prop where
  at_ : ∃ p cap, v = .slice p l.length cap ∧ l.length ≤ cap ∧ cap ≤ 9223372036854775807 ∧ ∀ i, i < l.length → ∃ b o, p = some ⟨b, o, none⟩ ∧ b < w.heap.size ∧ w.cell? ⟨b, o + i, none⟩ = some (.int .u64 (l.getD i 0))
  len : l.length ≤ 1073741824
  small : ∀ i, l.getD i 0 < 18446744073709551616
theorem U64At.drewN {w : World} {v : Value} {l : List Nat} (h : U64At w v l) (n : Nat) : U64At (w.drewN n) v l := ⟨h.at_, h.len, h.small⟩
theorem U64At.below {w w' : World} {v : Value} {l : List Nat} (h : U64At w v l) (hb : Below w.heap.size w w') : U64At w' v l := by
  obtain ⟨p, cap, hv, h1, h2, hc⟩ := h.at_
  refine ⟨⟨p, cap, hv, h1, h2, fun i hi => ?_⟩, h.len, h.small⟩
  obtain ⟨b, o, hp, hlt, hcell⟩ := hc i hi
  exact ⟨b, o, hp, Nat.lt_of_lt_of_le hlt hb.size, by rw [hb.cell (p := ⟨b, o + i, none⟩) hlt]; exact hcell⟩
theorem take_snocN (l : List Nat) (i : Nat) (h : i < l.length) : l.take (i + 1) = l.take i ++ [l.getD i 0] := by
  rw [List.take_add_one, List.getD_eq_getElem?_getD, List.getElem?_eq_getElem h]; rfl
theorem wFold_small : ∀ (l : List Nat) (s p : Nat), s ≤ 18446744073709551615 → M.wFold s l p ≤ 18446744073709551615 := fun l s p h => by rw [M.wFold_eq l s p h]; omega

set_option maxHeartbeats 1000000 in
theorem weighed_any (s : Nat) (v : Value) (l : List Nat) (q : Nat) (hs : s < 18446744073709551616) (hq : q ≤ 1000) (hl : l.length ≤ 1000) (w : World) (hT : TabW w) (hv : U64At w v l) :
    Calls Tryz.prog 214 #[.int .u64 s, v, .int .i64 q] w fun e w' => e = .returned (.int .u64 (M.wFold s l q)) ∧ w' = w := by
  obtain ⟨p, cap, rfl, _, _, hc⟩ := hv.at_
  have HC := Lib.hid hc
  have HSM := Lib.hid hv.small
  have HT := Lib.hid hT
  obtain ⟨n, hn⟩ : ∃ n, l.length = n := ⟨_, rfl⟩
  have HN := Lib.hid hn
  rw [hn] at HC hl ⊢
  clear hc hv hT hn
  go_enter Tryz.func214, Tryz.ntmps214
  go_wp2
  go_loop [0, 11] (fun a i => ∃ k : Nat, k ≤ n ∧ i = .int .i64 (k : Int) ∧ a = .int .u64 (M.wFold s (l.take k) q : Nat)) (fun _ i => n - (intOf i).toNat)
  case atStart => exact ⟨0, Nat.zero_le _, rfl, rfl⟩
  case round =>
    obtain ⟨k, hk, rfl, rfl⟩ := hrel
    by_cases hkn : k < n
    · obtain ⟨b, o, rfl, hlt, hcell⟩ := HC.out k hkn
      have hx := HSM.out k
      have hts := take_snocN l k (by rw [HN.out]; exact hkn)
      have hnext : M.wFold s (l.take (k + 1)) q = M.addT (M.wFold s (l.take k) q) (M.mulT (l.getD k 0) (M.wt (q + k))) := by
        rw [hts, M.wFold_snoc, List.length_take, show min k l.length = k by rw [HN.out]; omega]
      have HX := Lib.hid hnext
      have ha := wFold_small (l.take k) s q (by omega)
      have hw5 := wt_le (q + k)
      have HW := Lib.hid (fun W (h : TabW W) => weight_any (((q + k : Nat)) : Int) (by omega) (by omega) W h)
      rw [wtI_nat] at HW
      generalize l.getD k 0 = x at *
      generalize M.wFold s (l.take k) q = a at *
      generalize M.wt (q + k) = u at *
      have HM := Lib.hid (fun W => fixMul_any x u hx (by omega) W)
      have hmb : M.mulT x u < 18446744073709551616 := by rw [M.mulT_min]; omega
      generalize M.mulT x u = m at *
      have HA := Lib.hid (fun W => fixSum_any a m (by omega) hmb W)
      generalize M.addT a m = r at *
      rw [show (((q + k : Nat)) : Int) = (q : Int) + (k : Int) by omega] at HW
      clear hts hnext
      go_wp2_with (first
        | (go_at_call 213; (with_reducible refine (HW.out _ HT.out).mono ?_); rintro e w1 ⟨rfl, rfl⟩)
        | (go_at_call 88; (with_reducible refine (HM.out _).mono ?_); rintro e w1 ⟨rfl, rfl⟩)
        | (go_at_call 87; (with_reducible refine (HA.out _).mono ?_); rintro e w1 ⟨rfl, rfl⟩))
      refine ⟨⟨k + 1, by omega, by go_num, by rw [HX.out]⟩, ?_⟩
      simp [intOf]; omega
    · obtain rfl : k = n := by omega
      have ht : l.take k = l := List.take_of_length_le (by rw [HN.out]; exact Nat.le_refl _)
      rw [ht]
      clear ht
      go_wp2
      go_ret
      exact ⟨rfl, rfl⟩
theorem U64At.take {w : World} {p : Option Addr} {cap : Nat} {l : List Nat} (h : U64At w (.slice p l.length cap) l) (k : Nat) (hk : k ≤ l.length) : U64At w (.slice p k cap) (l.take k) := by
  obtain ⟨p', cap', hv, h1, h2, hc⟩ := h.at_
  injection hv with e1 _ e2
  subst e1 e2
  have hl : (l.take k).length = k := by rw [List.length_take]; omega
  have hg : ∀ i, (l.take k).getD i 0 = if i < k then l.getD i 0 else 0 := fun i => by
    rw [List.getD_eq_getElem?_getD, List.getD_eq_getElem?_getD, List.getElem?_take]
    split <;> rfl
  refine ⟨⟨p, cap, by rw [hl], by omega, h2, fun i hi => ?_⟩, by have := h.len; omega, fun i => ?_⟩
  · rw [hl] at hi
    obtain ⟨b, o, e, hlt, hcell⟩ := hc i (by omega)
    exact ⟨b, o, e, hlt, by rw [hg, if_pos hi]; exact hcell⟩
  · rw [hg]
    split
    · exact h.small i
    · decide
theorem wTot_succ : ∀ j : Fin 8, M.addT (M.wTot j.val) (M.wt j.val) = M.wTot (j.val + 1) ∧ M.wTot j.val ≤ 30 := by decide

set_option maxHeartbeats 2000000 in
theorem weigh_any (o : Nat) (v : Value) (l : List Nat) (ho : o < 18446744073709551616) (w : World) (hT : TabW w) (hv : U64At w v l) :
    Calls Tryz.prog 186 #[.int .u64 o, v] w fun e w' => e = .returned (.tuple #[.int .u64 (if l = [] then 0 else M.weighTot l), .int .u64 (if l = [] then 0 else M.weighLen o l)]) ∧ ∃ n, w' = w.drewN n := by
  obtain ⟨p, cap, rfl, hcap, hcm, _⟩ := hv.at_
  by_cases hl0 : l = []
  · subst hl0
    rw [if_pos rfl, if_pos rfl]
    clear hT hv
    go_enter Tryz.func186, Tryz.ntmps186
    go_wp2
    go_ret2
    exact ⟨rfl, 0, rfl⟩
  · rw [if_neg hl0, if_neg hl0]
    have hlen := hv.len
    have h0 : 0 < l.length := List.length_pos_iff.2 hl0
    obtain ⟨k, hk⟩ : ∃ k : Nat, min l.length 8 = k := ⟨_, rfl⟩
    have hk8 : k ≤ 8 ∧ 0 < k ∧ k ≤ l.length := by omega
    have hmin : min (l.length : Int) 8 = (k : Int) := by omega
    have hkz : ((k : Int) == 0) = false := by rw [beq_eq_false_iff_ne]; omega
    have hkk : (l.take 8).length = k := by rw [List.length_take]; omega
    have hte : (l.take 8) = l.take k := by
      by_cases h8 : 8 ≤ l.length
      · rw [show k = 8 by omega]
      · rw [List.take_of_length_le (by omega), List.take_of_length_le (by omega)]
    have hTot : M.weighTot l = M.wTot k := by unfold M.weighTot; rw [hkk]
    have hLen : M.weighLen o l = max (M.wFold (M.mulT o 5) (l.take (k - 1)) 1) (M.wFold 0 (l.take k) 0) := by
      unfold M.weighLen
      simp only
      rw [hkk, hte, List.take_take, show min (k - 1) k = k - 1 by omega]
    rw [hTot, hLen]
    have HT := Lib.hid hT
    have HM := Lib.hid (fun W => fixMul_any o 5 ho (by decide) W)
    have hm5 : M.mulT o 5 < 18446744073709551616 := by rw [M.mulT_min]; omega
    generalize M.mulT o 5 = m at *
    have HV1 := Lib.hid (fun n => weighed_any m (.slice p (k - 1) cap) (l.take (k - 1)) 1 hm5 (by decide) (by rw [List.length_take]; omega) (w.drewN n) (hT.drewN n) ((hv.take (k - 1) (by omega)).drewN n))
    have HV2 : Hid (∀ n, Calls Tryz.prog 214 #[.int .u64 0, .slice p k cap, .int .i64 0] (w.drewN n) fun e w' => e = .returned (.int .u64 (M.wFold 0 (l.take k) 0)) ∧ w' = w.drewN n) := Lib.hid (fun n => weighed_any 0 (.slice p k cap) (l.take k) 0 (by decide) (by decide) (by rw [List.length_take]; omega) (w.drewN n) (hT.drewN n) ((hv.take k (by omega)).drewN n))
    have HW0 := Lib.hid (fun n => weight_any 0 (by decide) (by decide) (w.drewN n) (hT.drewN n))
    rw [show wtI 0 = 5 from rfl] at HW0
    have hf1 : M.wFold m (l.take (k - 1)) 1 < 18446744073709551616 := by have := wFold_small (l.take (k - 1)) m 1 (by omega); omega
    have hf2 : M.wFold 0 (l.take k) 0 < 18446744073709551616 := by have := wFold_small (l.take k) 0 0 (by omega); omega
    generalize M.wFold m (l.take (k - 1)) 1 = f1 at *
    generalize M.wFold 0 (l.take k) 0 = f2 at *
    obtain ⟨N, hN⟩ : ∃ N, l.length = N := ⟨_, rfl⟩
    rw [hN] at hmin hcap hlen hk8 ⊢
    clear hT hv hk hkk hte hTot hLen hl0 h0 hN
    go_enter Tryz.func186, Tryz.ntmps186
    go_wp2
    go_loop [4, 7, 16] (fun a _ i => ∃ j : Nat, j ≤ k ∧ i = .int .i64 (j : Int) ∧ a = .int .u64 (M.wTot j : Nat)) (fun _ _ i => k - (intOf i).toNat)
    case atStart => exact ⟨0, Nat.zero_le _, rfl, rfl⟩
    case round =>
      obtain ⟨j, hj, rfl, rfl⟩ := hrel
      by_cases hjk : j < k
      · obtain ⟨hs, hs30⟩ := wTot_succ ⟨j, by omega⟩
        simp only at hs hs30
        have hw5 := wt_le j
        have HW := Lib.hid (weight_any (j : Int) (by omega) (by omega) w HT.out)
        rw [wtI_nat] at HW
        have HA := Lib.hid (fun W => fixSum_any (M.wTot j) (M.wt j) (by omega) (by omega) W)
        rw [hs] at HA
        generalize M.wTot j = a at *
        generalize M.wt j = u at *
        obtain ⟨r, hr⟩ : ∃ r, M.wTot (j + 1) = r := ⟨_, rfl⟩
        have HR := Lib.hid hr
        rw [hr] at HA
        clear hs hr
        go_wp2_with (first
          | (go_at_call 213; (with_reducible refine HW.out.mono ?_); rintro e w1 ⟨rfl, rfl⟩)
          | (go_at_call 87; (with_reducible refine (HA.out _).mono ?_); rintro e w1 ⟨rfl, rfl⟩))
        refine ⟨⟨j + 1, by omega, by go_num, by rw [HR.out]⟩, ?_⟩
        simp [intOf]; omega
      · obtain rfl : j = k := by omega
        obtain ⟨T, hT⟩ : ∃ T, M.wTot j = T := ⟨_, rfl⟩
        rw [hT]
        have HTT := Lib.hid hT
        have hj1 : (j : Int) - 1 = ((j - 1 : Nat) : Int) := by omega
        clear hT
        go_upto_region 9 with fail
        go_quiet ((first
          | (go_at_call 213; exact Calls.quiet_of_same (HW0.out _))
          | (go_at_call 88; exact Calls.quiet_of_same ((HM.out _).mono fun e w' hh => ⟨hh.1, hh.2.symm⟩))
          | (go_at_call 214; exact Calls.quiet_of_same (HV1.out _))))
        go_wp2_with (go_at_call 214; (with_reducible refine (HV2.out _).mono ?_); rintro e w1 ⟨rfl, rfl⟩)
        go_ret2
        exact ⟨M.ret_ints (by rw [HTT.out]) (by omega), _, rfl⟩
end Go.Proofs.YtnhlachoimlhhaaGreatDoor

namespace Go.Proofs.YtnhlachoimlhhaaGreatDoor
open Go.ChangeShapes Go.WideShapes Go.ChangeAt Go.RowKit
set_option linter.unusedVariables false
set_option linter.unusedSimpArgs false

theorem weighLen_lt (o : Nat) (l : List Nat) : M.weighLen o l < 18446744073709551616 := by rw [M.weighLen_eq]; omega
theorem rate_any (o : Nat) (v : Value) (l : List Nat) (ho : o < 18446744073709551616) (w : World) (hT : TabW w) (hv : U64At w v l) :
    Calls Tryz.prog 148 #[.int .u64 o, v] w fun e w' => e = .returned (.int .u64 (M.lossRate o l)) ∧ ∃ n, w' = w.drewN n := by
  have HW := Lib.hid (weigh_any o v l ho w hT hv)
  obtain ⟨p, cap, rfl, _⟩ := hv.at_
  clear hT hv
  by_cases hl : l = []
  · have hr : M.lossRate o l = 0 := if_pos hl
    rw [if_pos hl, if_pos hl] at HW
    rw [hr]
    clear hr hl
    generalize l.length = N at *
    go_enter Tryz.func148, Tryz.ntmps148
    go_wp2_with (go_at_call 186; (with_reducible refine HW.out.mono ?_); rintro e w1 ⟨rfl, n, rfl⟩)
    go_ret
    exact ⟨rfl, n, rfl⟩
  · have hr : M.lossRate o l = min (M.mulDivT (M.weighTot l) 4294967296 (M.weighLen o l)) 4294967296 := if_neg hl
    rw [if_neg hl, if_neg hl] at HW
    have hT := M.wTot_pos l hl
    have hL := weighLen_lt o l
    rw [hr]
    generalize M.weighLen o l = L at *
    generalize M.weighTot l = T at *
    have HD : Hid (∀ W, Calls Tryz.prog 182 #[.int .u64 T, .int .u64 4294967296, .int .u64 L] W fun e w' => e = .returned (.int .u64 (M.mulDivT T 4294967296 L)) ∧ ∃ n, w' = W.drewN n) := Lib.hid (fun W => fixMulDiv_any T 4294967296 L (by omega) (by decide) hL W)
    have hz : ((T : Int) == 0) = false := by rw [beq_eq_false_iff_ne]; omega
    generalize M.mulDivT T 4294967296 L = Q at *
    clear hr hl
    generalize l.length = N at *
    go_enter Tryz.func148, Tryz.ntmps148
    go_wp2_with (first
      | (go_at_call 186; (with_reducible refine HW.out.mono ?_); rintro e w1 ⟨rfl, n, rfl⟩)
      | (go_at_call 182; (with_reducible refine (HD.out _).mono ?_); rintro e w2 ⟨rfl, m, rfl⟩))
    go_ret
    exact ⟨M.ret_int (by omega), n + m, rfl⟩

/-- The document's weights, laid by the call itself. -/
def wCells : Array Value := #[.int .u64 5, .int .u64 5, .int .u64 5, .int .u64 5, .int .u64 4, .int .u64 3, .int .u64 2, .int .u64 1]
theorem store_w8 {ops : Array Oper} {rest : List Oper} {o : Oper} {a : Act} {w : World} {Q : Exit → Act → World → Prop} (hgd : o.guard = none) (x y : Operand) (ho : o.op = .store 287 x y)
    (C : Nat) (old : Array Value) (hx : a.eval x = .pointer (some ⟨C, 0, none⟩)) (hy : a.eval y = .agg wCells) (hb : w.heap[C]? = some (.cells old 287 (0, 0))) (hold : old.size = 8)
    (hh : ∀ w', (∀ i, i < 8 → w'.cell? ⟨C, i, none⟩ = some (.int .u64 (M.wt i))) → w.grownBy w' (some C) → wpList Tryz.prog ops Q rest (a.put o.dst undef) w') : wpList Tryz.prog ops Q (o :: rest) a w := by
  refine wpList_store_row hgd 287 x y ho C wCells hx hy 287 old hb (by kernel_rfl) (by rw [hold]; rfl) (by simp [wCells, Value.oneCell']) (hh _ (fun i hi => ?_) ?_)
  · rw [cell_of_row _ C i _ _ _ (setRow_heap w C _ _ _ _ hb)]
    have : i = 0 ∨ i = 1 ∨ i = 2 ∨ i = 3 ∨ i = 4 ∨ i = 5 ∨ i = 6 ∨ i = 7 := by omega
    rcases this with rfl | rfl | rfl | rfl | rfl | rfl | rfl | rfl <;> rfl
  · exact ⟨rfl, rfl, rfl, by simp, fun k _ hk => by
      have hne : k ≠ C := fun e => hk (by rw [e])
      simp only [World.setRow, Array.getElem?_modify]
      rw [if_neg (by omega)]⟩
theorem wTot_next : ∀ j : Fin 8, M.wTot j.val + M.wt j.val = M.wTot (j.val + 1) ∧ M.wTot j.val ≤ 30 := by decide
end Go.Proofs.YtnhlachoimlhhaaGreatDoor
