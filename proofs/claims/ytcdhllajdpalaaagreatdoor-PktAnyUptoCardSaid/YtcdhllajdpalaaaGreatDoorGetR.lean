/-
  The document's GetHead, region 3: what its operations leave.
-/
import Derived.Test.YtcdhllajdpalaaaGreatDoorRegJ
import Derived.Test.YtcdhllajdpalaaaGreatDoorPkB
namespace Go.Proofs.YtcdhllajdpalaaaGreatDoor
open Go.ChangeShapes Go.WideShapes Go.ChangeAt Go.RowKit
set_option linter.unusedVariables false
set_option linter.unusedSimpArgs false

/-- The quiet operations below m hold c's values; operation m has laid a head's block, operation m + 1 has stored g into it. -/
structure GtI (m : Nat) (c : List Value) (B : Nat) (w0 : World) (g : Hd) (L : Nat → Bool) (V : Nat → Value) (W : World) : Prop where
  bel : Below B w0 W ∧ B ≤ W.heap.size
  vals : ∀ i, i < m → L i = true → V i = c.getD i undef
  cell : L m = true → ∃ H, V m = .pointer (some ⟨H, 0, none⟩) ∧ B ≤ H ∧ HdBlk (if L (m + 1) = true then g else Hd.zero) H W
  ord : L (m + 1) = true → L m = true
section
variable {m : Nat} {c : List Value} {B : Nat} {w0 : World} {g : Hd} {L : Nat → Bool} {V : Nat → Value} {W : World}
theorem GtI.quiet (h : GtI m c B w0 g L V W) (i : Nat) (hi : i < m) (V' : Nat → Value) (hV : ∀ j, L j = true → V' j = V j) (hv : V' i = c.getD i undef) : GtI m c B w0 g (fun j => j == i || L j) V' W := by
  have e : ∀ j, m ≤ j → (j == i || L j) = L j := fun j hj => by
    have : (j == i) = false := by rw [beq_eq_false_iff_ne]; omega
    rw [this, Bool.false_or]
  refine ⟨h.bel, fun j hj hl => ?_, fun hl => ?_, fun hl => ?_⟩
  · by_cases ej : j = i
    · subst ej; exact hv
    · have : (j == i) = false := by rw [beq_eq_false_iff_ne]; exact ej
      simp only [this, Bool.false_or] at hl
      rw [hV j hl]; exact h.vals j hj hl
  · simp only [e m (Nat.le_refl _)] at hl
    simp only [e (m + 1) (by omega)]
    obtain ⟨H, h1, h2, h3⟩ := h.cell hl
    exact ⟨H, (hV m hl).trans h1, h2, h3⟩
  · simp only [e (m + 1) (by omega)] at hl
    show (m == i || L m) = true
    rw [e m (Nat.le_refl _)]
    exact h.ord hl
theorem GtI.alloc (h : GtI m c B w0 g L V W) (hl : L m = false) (V' : Nat → Value) (hV : ∀ j, L j = true → V' j = V j) (hv : V' m = .pointer (some ⟨W.heap.size, 0, none⟩)) : GtI m c B w0 g (fun j => j == m || L j) V' (W.alloc Hd.zero.box) := by
  have n1 : L (m + 1) = false := by
    cases e : L (m + 1) with
    | false => rfl
    | true => have := h.ord e; rw [hl] at this; cases this
  have e1 : ((m + 1 == m) || L (m + 1)) = false := by
    have : (m + 1 == m) = false := by rw [beq_eq_false_iff_ne]; omega
    rw [this, n1]; rfl
  refine ⟨⟨h.bel.1.alloc h.bel.2 _, by have := h.bel.2; simp; omega⟩, fun j hj hl2 => ?_, fun _ => ⟨_, hv, h.bel.2, ?_⟩, fun hl2 => ?_⟩
  · have : (j == m) = false := by rw [beq_eq_false_iff_ne]; omega
    simp only [this, Bool.false_or] at hl2
    rw [hV j hl2]; exact h.vals j hj hl2
  · simp only [e1]
    exact heap_alloc_new W _
  · simp only [e1] at hl2; cases hl2
theorem GtI.store (h : GtI m c B w0 g L V W) (hl : L (m + 1) = false) (hm : L m = true) (H : Nat) (hH : V m = .pointer (some ⟨H, 0, none⟩)) {W' : World} (hg : W.grownBy W' (some H)) (hb : HdBlk g H W') (V' : Nat → Value) (hV : ∀ j, L j = true → V' j = V j) : GtI m c B w0 g (fun j => j == m + 1 || L j) V' W' := by
  obtain ⟨H2, h1, h2, h3⟩ := h.cell hm
  have hHH : H2 = H := by rw [hH] at h1; injection h1 with h1; injection h1 with h1; injection h1 with h1; exact h1.symm
  subst hHH
  have em : (m == m + 1) = false := by rw [beq_eq_false_iff_ne]; omega
  refine ⟨⟨h.bel.1.grown hg h.bel.2 (fun k hk => by cases hk; exact h2), Nat.le_trans h.bel.2 hg.size⟩, fun j hj hl2 => ?_, fun _ => ⟨H2, (hV m hm).trans hH, h2, ?_⟩, fun _ => ?_⟩
  · have : (j == m + 1) = false := by rw [beq_eq_false_iff_ne]; omega
    simp only [this, Bool.false_or] at hl2
    rw [hV j hl2]; exact h.vals j hj hl2
  · simp only [beq_self_eq_true, Bool.true_or, if_true]
    exact hb
  · simp only [em, Bool.false_or]; exact hm
end
end Go.Proofs.YtcdhllajdpalaaaGreatDoor
