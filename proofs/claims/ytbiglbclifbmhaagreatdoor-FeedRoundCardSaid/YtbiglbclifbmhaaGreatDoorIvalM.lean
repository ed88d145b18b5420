/-
  Intervals weighed: the pure sums of package ival and of the document.
-/
import Derived.Test.YtbiglbclifbmhaaGreatDoorMath
namespace Go.Proofs.YtbiglbclifbmhaaGreatDoor
open Go
namespace M
def wt (i : Nat) : Nat := [5, 5, 5, 5, 4, 3, 2, 1].getD i 0
def wTot (k : Nat) : Nat := [0, 5, 10, 15, 20, 24, 27, 29, 30].getD k 30
/-- The lengths, each by its weight, the first one at place p. -/
def wSum : List Nat → Nat → Nat
  | [], _ => 0
  | x :: l, p => x * wt p + wSum l (p + 1)
def wFold : Nat → List Nat → Nat → Nat
  | s, [], _ => s
  | s, x :: l, p => wFold (addT s (mulT x (wt p))) l (p + 1)
theorem addT_min (a b : Nat) : addT a b = min (a + b) 18446744073709551615 := by unfold addT; split <;> omega
theorem mulT_min (a b : Nat) : mulT a b = min (a * b) 18446744073709551615 := by unfold mulT; split <;> omega
theorem wFold_eq : ∀ (l : List Nat) (s p : Nat), s ≤ 18446744073709551615 → wFold s l p = min (s + wSum l p) 18446744073709551615
  | [], s, p, h => by unfold wFold wSum; omega
  | x :: l, s, p, h => by
    unfold wFold wSum
    have h2 : addT s (mulT x (wt p)) ≤ 18446744073709551615 := by rw [addT_min]; omega
    rw [wFold_eq l _ _ h2, addT_min, mulT_min]
    generalize x * wt p = y
    generalize wSum l (p + 1) = z
    omega
theorem wFold_snoc : ∀ (l : List Nat) (s p x : Nat), wFold s (l ++ [x]) p = addT (wFold s l p) (mulT x (wt (p + l.length)))
  | [], s, p, x => by simp [wFold]
  | y :: l, s, p, x => by
    rw [List.cons_append]
    unfold wFold
    rw [wFold_snoc l _ _ x, List.length_cons, show p + 1 + l.length = p + (l.length + 1) by omega]
/-- The weights' sum, and the greater one of the sums with and without the open one. -/
def weighLen (o : Nat) (c : List Nat) : Nat :=
  let l := c.take 8
  max (wFold (mulT o 5) (l.take (l.length - 1)) 1) (wFold 0 l 0)
def weighTot (c : List Nat) : Nat := wTot (c.take 8).length
def mean (o : Nat) (c : List Nat) : Nat := if c = [] then 0 else weighLen o c / weighTot c
def lossRate (o : Nat) (c : List Nat) : Nat := if c = [] then 0 else min (mulDivT (weighTot c) 4294967296 (weighLen o c)) 4294967296
theorem weighLen_eq (o : Nat) (c : List Nat) : weighLen o c = max (min (o * 5 + wSum ((c.take 8).take ((c.take 8).length - 1)) 1) 18446744073709551615) (min (wSum (c.take 8) 0) 18446744073709551615) := by
  unfold weighLen
  simp only
  have h1 : mulT o 5 ≤ 18446744073709551615 := by rw [mulT_min]; omega
  rw [wFold_eq _ _ _ h1, wFold_eq _ _ _ (by omega), mulT_min]
  generalize wSum ((c.take 8).take ((c.take 8).length - 1)) 1 = y
  generalize o * 5 = z
  omega
theorem lossRate_le (o : Nat) (c : List Nat) : lossRate o c ≤ 4294967296 := by unfold lossRate; split <;> omega
theorem wSum_mono : ∀ (l m : List Nat) (p : Nat), l.length = m.length → (∀ i, l.getD i 0 ≤ m.getD i 0) → wSum l p ≤ wSum m p
  | [], [], _, _, _ => Nat.le_refl _
  | [], _ :: _, _, h, _ => by simp at h
  | _ :: _, [], _, h, _ => by simp at h
  | x :: l, y :: m, p, h, hi => by
    unfold wSum
    have h0 : x ≤ y := by simpa using hi 0
    have h1 := wSum_mono l m (p + 1) (by simpa using h) (fun i => by simpa using hi (i + 1))
    have h2 : x * wt p ≤ y * wt p := Nat.mul_le_mul_right _ h0
    omega
theorem wSum_rep (n : Nat) : ∀ k p, wSum (List.replicate k n) p = n * wSum (List.replicate k 1) p
  | 0, p => by simp [wSum]
  | k + 1, p => by
    rw [List.replicate_succ, List.replicate_succ]
    unfold wSum
    rw [wSum_rep n k (p + 1), Nat.one_mul, Nat.mul_add]
theorem wSum_ones : ∀ k : Fin 9, wSum (List.replicate k.val 1) 0 = wTot k.val ∧ (0 < k.val → 5 + wSum (List.replicate (k.val - 1) 1) 1 = wTot k.val) ∧ (0 < k.val → 0 < wTot k.val) := by decide
theorem wTot_pos (c : List Nat) (h : c ≠ []) : 0 < weighTot c ∧ weighTot c ≤ 30 := by
  unfold weighTot
  have h1 : 0 < (c.take 8).length := by
    rw [List.length_take]
    have : 0 < c.length := List.length_pos_iff.2 h
    omega
  have h2 : (c.take 8).length ≤ 8 := by rw [List.length_take]; omega
  generalize (c.take 8).length = k at *
  have : k = 1 ∨ k = 2 ∨ k = 3 ∨ k = 4 ∨ k = 5 ∨ k = 6 ∨ k = 7 ∨ k = 8 := by omega
  rcases this with rfl | rfl | rfl | rfl | rfl | rfl | rfl | rfl <;> decide
theorem mulDivT_mono (w a b : Nat) (h : a ≤ b) : mulDivT w 4294967296 b ≤ mulDivT w 4294967296 a := by
  unfold mulDivT
  by_cases ha : a = 0
  · rw [if_pos ha]
    split
    · exact Nat.le_refl _
    · split <;> omega
  · rw [if_neg ha, if_neg (by omega)]
    have h1 : w * 4294967296 / b ≤ w * 4294967296 / a := Nat.div_le_div_left h (by omega)
    split <;> split <;> omega
theorem lossRate_mono (o1 o2 : Nat) (c1 c2 : List Nat) (hl : c1.length = c2.length) (h : weighLen o1 c1 ≤ weighLen o2 c2) : lossRate o2 c2 ≤ lossRate o1 c1 := by
  unfold lossRate
  by_cases h0 : c1 = []
  · subst h0
    have : c2 = [] := List.eq_nil_of_length_eq_zero (by simpa using hl.symm)
    subst this
    rw [if_pos rfl]
    exact Nat.le_refl _
  · have h2 : c2 ≠ [] := fun e => h0 (List.eq_nil_of_length_eq_zero (by rw [hl, e]; rfl))
    rw [if_neg h0, if_neg h2]
    have ht : weighTot c1 = weighTot c2 := by unfold weighTot; rw [List.length_take, List.length_take, hl]
    rw [ht]
    have := mulDivT_mono (weighTot c2) _ _ h
    omega
theorem weighLen_mono (o1 o2 : Nat) (c1 c2 : List Nat) (ho : o1 ≤ o2) (hl : c1.length = c2.length) (h : ∀ i, c1.getD i 0 ≤ c2.getD i 0) : weighLen o1 c1 ≤ weighLen o2 c2 := by
  rw [weighLen_eq, weighLen_eq]
  have ht : (c1.take 8).length = (c2.take 8).length := by rw [List.length_take, List.length_take, hl]
  have hg : ∀ (c : List Nat) (n i : Nat), (c.take n).getD i 0 = if i < n then c.getD i 0 else 0 := fun c n i => by
    rw [List.getD_eq_getElem?_getD, List.getD_eq_getElem?_getD, List.getElem?_take]
    split <;> rfl
  have a1 := wSum_mono ((c1.take 8).take ((c1.take 8).length - 1)) ((c2.take 8).take ((c2.take 8).length - 1)) 1 (by rw [List.length_take (i := (c1.take 8).length - 1), List.length_take (i := (c2.take 8).length - 1), ht]) (fun i => by
    rw [hg, hg, hg, hg, ht]
    split
    · split
      · exact h i
      · exact Nat.le_refl _
    · exact Nat.le_refl _)
  have a2 := wSum_mono (c1.take 8) (c2.take 8) 0 ht (fun i => by
    rw [hg, hg]
    split
    · exact h i
    · exact Nat.le_refl _)
  have a3 : o1 * 5 ≤ o2 * 5 := Nat.mul_le_mul_right _ ho
  omega
/-- A loss in each so many. -/
theorem steady (n k : Nat) (hn : 0 < n) (hn2 : n ≤ 1099511627776) (hk : 0 < k) : mean 0 (List.replicate k n) = n ∧ mean n (List.replicate k n) = n ∧ lossRate n (List.replicate k n) = min 4294967296 (4294967296 / n) := by
  have hne : List.replicate k n ≠ [] := by cases k with | zero => omega | succ k => simp [List.replicate_succ]
  have ht : (List.replicate k n).take 8 = List.replicate (min 8 k) n := by rw [List.take_replicate]
  obtain ⟨j, hj⟩ : ∃ j, min 8 k = j := ⟨_, rfl⟩
  have hj8 : j ≤ 8 := by omega
  have hj0 : 0 < j := by omega
  obtain ⟨q1, q2, q3⟩ := wSum_ones ⟨j, by omega⟩
  simp only at q1 q2 q3
  have q2' := q2 hj0
  have q3' := q3 hj0
  have hw : weighTot (List.replicate k n) = wTot j := by unfold weighTot; rw [ht, List.length_replicate, hj]
  have hw30 : wTot j ≤ 30 := by have := (wTot_pos _ hne).2; rw [hw] at this; exact this
  have hB : wSum ((List.replicate k n).take 8) 0 = n * wTot j := by rw [ht, hj, wSum_rep, q1]
  have hA : wSum (((List.replicate k n).take 8).take (((List.replicate k n).take 8).length - 1)) 1 = n * wSum (List.replicate (j - 1) 1) 1 := by
    rw [ht, hj, List.length_replicate, List.take_replicate, wSum_rep n (min (j - 1) j)]
    rw [show min (j - 1) j = j - 1 by omega]
  obtain ⟨u, hu⟩ : ∃ u, wSum (List.replicate (j - 1) 1) 1 = u := ⟨_, rfl⟩
  obtain ⟨t, ht2⟩ : ∃ t, wTot j = t := ⟨_, rfl⟩
  rw [hu] at hA q2'
  rw [ht2] at hB hw hw30 q2' q3'
  have hnt : n * t ≤ 1099511627776 * 30 := Nat.mul_le_mul hn2 hw30
  have hnu : n * u + n * 5 = n * t := by rw [← Nat.mul_add, ← q2', Nat.add_comm u 5]
  have hL0 : weighLen 0 (List.replicate k n) = n * t := by rw [weighLen_eq, hA, hB]; omega
  have hLn : weighLen n (List.replicate k n) = n * t := by rw [weighLen_eq, hA, hB]; omega
  refine ⟨?_, ?_, ?_⟩
  · unfold mean; rw [if_neg hne, hL0, hw]; exact Nat.mul_div_cancel _ q3'
  · unfold mean; rw [if_neg hne, hLn, hw]; exact Nat.mul_div_cancel _ q3'
  · unfold lossRate
    rw [if_neg hne, hLn, hw]
    unfold mulDivT
    have hpos : 0 < n * t := Nat.mul_pos hn q3'
    have hq : t * 4294967296 / (n * t) = 4294967296 / n := by
      rw [Nat.mul_comm n t]; exact Nat.mul_div_mul_left _ _ q3'
    have hle : 4294967296 / n ≤ 4294967296 := Nat.div_le_self _ _
    rw [if_neg (by omega), hq, if_pos (by omega)]
    omega
/-- One interval. -/
theorem one (o n : Nat) (ho : o < 1125899906842624) (hn : n < 1125899906842624) : mean o [n] = max o n ∧ lossRate o [n] = if max o n = 0 then 4294967296 else min 4294967296 (4294967296 / max o n) := by
  have hw : weighTot [n] = 5 := rfl
  have hL : weighLen o [n] = max o n * 5 := by
    rw [weighLen_eq]
    have e1 : wSum ((([n] : List Nat).take 8).take ((([n] : List Nat).take 8).length - 1)) 1 = 0 := rfl
    have e2 : wSum (([n] : List Nat).take 8) 0 = n * 5 := by simp [wSum, wt]
    rw [e1, e2]
    omega
  refine ⟨?_, ?_⟩
  · unfold mean; rw [if_neg (by simp), hL, hw]; exact Nat.mul_div_cancel _ (by decide)
  · unfold lossRate
    rw [if_neg (by simp), hL, hw]
    by_cases h0 : max o n = 0
    · rw [if_pos h0, h0]; rfl
    · rw [if_neg h0]
      unfold mulDivT
      have hq : 5 * 4294967296 / (max o n * 5) = 4294967296 / max o n := by
        rw [Nat.mul_comm (max o n) 5]; exact Nat.mul_div_mul_left _ _ (by decide)
      have hle : 4294967296 / max o n ≤ 4294967296 := Nat.div_le_self _ _
      rw [if_neg (by omega), hq, if_pos (by omega)]
      omega
end M
end Go.Proofs.YtbiglbclifbmhaaGreatDoor
