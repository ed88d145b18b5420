/-
  The document's own May of heads.
-/
import Derived.Test.YtcdhllajdpalaaaGreatDoorHeadMath
import Derived.Test.YtcdhllajdpalaaaGreatDoorArr3
import Derived.Deep.DeepCutAuto
import Derived.BigGuardPart
namespace Go.Proofs.YtcdhllajdpalaaaGreatDoor
open Go.ChangeShapes Go.WideShapes Go.ChangeAt Go.RowKit
set_option linter.unusedVariables false

theorem bool_of {p : Prop} [Decidable p] {c : Bool} (h : decide p = c) : c = true ↔ p := by subst h; exact decide_eq_true_iff
theorem beq_of {a b : Int} {c : Bool} (h : (a == b) = c) : c = true ↔ a = b := by subst h; exact beq_iff_eq
theorem bne_of {a b : Int} {c : Bool} (h : (a != b) = c) : c = true ↔ a ≠ b := by subst h; exact bne_iff_ne

/-- What May asks, in plain words; Z, M, the numbers: integers. -/
theorem mayB_iff (h : Hd) : h.mayB = true ↔ sizeN h.type h.x ≠ 0 ∧ (0 ≤ h.src ∧ h.src ≤ 65535) ∧ (0 ≤ h.dst ∧ h.dst ≤ 65535) ∧ (((sizeN h.type h.x : Nat) : Int) / 4 ≤ h.off ∧ h.off ≤ 255) ∧ (0 ≤ h.cc ∧ h.cc ≤ 15) ∧ (0 ≤ h.cs ∧ h.cs ≤ 15) ∧ (0 ≤ h.sum ∧ h.sum ≤ 65535) ∧
    ((hasAckB h.type = true ∨ h.ack = 0) ∧ h.seq < mostN h.x ∧ h.ack < mostN h.x) ∧ ((serviceB h.type = true ∨ h.service = 0) ∧ (codeB h.type = true ∧ 0 ≤ h.code ∧ h.code ≤ 255 ∨ codeB h.type = false ∧ h.code = 0 ∧ h.i0 = 0 ∧ h.i1 = 0 ∧ h.i2 = 0)) := by
  unfold Hd.mayB Hd.numbersB Hd.extrasB roomB
  simp only [Bool.and_eq_true, Bool.or_eq_true, decide_eq_true_eq, btw_true, Int.natCast_ediv]
  cases hc : codeB h.type <;> simp [btw_true] <;> omega

end Go.Proofs.YtcdhllajdpalaaaGreatDoor
