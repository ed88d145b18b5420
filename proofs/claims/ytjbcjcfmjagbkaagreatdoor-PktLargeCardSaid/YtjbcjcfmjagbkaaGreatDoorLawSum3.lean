/-
  The law SumTwo: its pieces.
-/
import Derived.Test.YtjbcjcfmjagbkaaGreatDoorLawSum2
import Derived.BigRegion
namespace Go.Proofs.YtjbcjcfmjagbkaaGreatDoor
open Go.ChangeShapes Go.WideShapes Go.ChangeAt Go.RowKit
set_option linter.unusedVariables false

theorem even_part (bl be : ByteArray) (h : Int) (h0 : 0 ≤ h) (hh : h ≤ (bl.size : Int)) (he : bl.extract 0 h.toNat = be) (W : World) :
    (Instr.slice 9 (.string bl) none (some (.int .i64 h)) none).run Tryz.prog W = .ok (.string be) W := by
  rw [run_slice_string_h W 9 bl Tryz.underlying9 .i64 h h0 hh, he]

theorem BRow.at {w : World} {g : Nat} {l : List UInt8} (h : BRow w g l) (p c : Nat) (hp : p < l.length) (hc : (l.getD p 0).toNat = c) : w.cell? ⟨g, p, none⟩ = some (.int .u8 c) ∧ w.frozen? ⟨g, p, none⟩ = false := by
  refine ⟨?_, h.free p hp⟩
  rw [h.cell p hp]
  have e : l[p] = l.getD p 0 := by rw [List.getD_eq_getElem?_getD, List.getElem?_eq_getElem hp]; rfl
  rw [e, ← hc]; rfl
theorem BRow.set2 {w : World} {g : Nat} {l : List UInt8} (h : BRow w g l) (p q c d : Nat) (hc : (l.getD q 0).toNat = c) (hd : (l.getD p 0).toNat = d) :
    BRow ((w.setCell ⟨g, p, none⟩ (.int .u8 c)).setCell ⟨g, q, none⟩ (.int .u8 d)) g ((l.set p (l.getD q 0)).set q (l.getD p 0)) :=
  (h.set p (l.getD q 0) c (by rw [hc])).set q (l.getD p 0) d (by rw [hd])
theorem set_far {w : World} {g a b : Nat} {x y : Value} (hb : w.cell? ⟨g, b, none⟩ = some y) (fb : w.frozen? ⟨g, b, none⟩ = false) : ∃ z, (w.setCell ⟨g, a, none⟩ x).cell? ⟨g, b, none⟩ = some z ∧ (w.setCell ⟨g, a, none⟩ x).frozen? ⟨g, b, none⟩ = false := by
  obtain ⟨z, hz⟩ := cell?_setCell_some (w := w) (p := ⟨g, a, none⟩) (x := x) (q := ⟨g, b, none⟩) (v := y) hb
  exact ⟨z, hz, by rw [← fb]; exact World.frozen?_setCell _ _ _ _⟩

end Go.Proofs.YtjbcjcfmjagbkaaGreatDoor
