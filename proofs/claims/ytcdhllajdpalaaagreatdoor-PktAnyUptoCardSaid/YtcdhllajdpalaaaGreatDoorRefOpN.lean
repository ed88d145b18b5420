/-
  The document's own May of options; the first option of a type.
  The document's own Put of options that may be.
-/
import Derived.Test.YtcdhllajdpalaaaGreatDoorRefOpM
import Derived.Test.YtcdhllajdpalaaaGreatDoorText
import Derived.Deep.RegionHeld3
namespace Go.Proofs.YtcdhllajdpalaaaGreatDoor
open Go.ChangeShapes Go.WideShapes Go.ChangeAt Go.RowKit
set_option linter.unusedVariables false

theorem optMay_true {o : M.Opt} (h : 0 ≤ o.t ∧ o.t ≤ 255 ∧ (o.t < 32 ∧ o.d.length = 0 ∨ 32 ≤ o.t ∧ o.d.length ≤ 253)) : M.optMay o = true := decide_eq_true h
theorem optMay_false {o : M.Opt} (h : ¬ (0 ≤ o.t ∧ o.t ≤ 255 ∧ (o.t < 32 ∧ o.d.length = 0 ∨ 32 ≤ o.t ∧ o.d.length ≤ 253))) : M.optMay o = false := decide_eq_false h

/-- The first option of a type. -/
def findO (os : List M.Opt) (t : Int) : Option (List UInt8) := (os.find? fun o => decide (o.t = t)).map (·.d)
def findV (os : List M.Opt) (t : Int) : Value := match findO os t with
  | some d => .tuple #[.string (str d), .bool true]
  | none => .tuple #[.string ⟨#[]⟩, .bool false]

end Go.Proofs.YtcdhllajdpalaaaGreatDoor

namespace Go.Proofs.YtcdhllajdpalaaaGreatDoor
open Go.ChangeShapes Go.WideShapes Go.ChangeAt Go.RowKit
set_option linter.unusedVariables false

/-- A cell that is read while memory is made. -/
def CSt (w : World) (b i : Nat) (x : Value) (W : World) : Prop := W.cell? ⟨b, i, none⟩ = some x ∧ b < W.heap.size ∧ Below w.heap.size w W
theorem CSt.s {w W : World} {b i : Nat} {x : Value} (h : CSt w b i x W) : CSt w b i x W ∧ W.cell? ⟨b, i, none⟩ = some x := ⟨h, h.1⟩
theorem CSt.drew {w W : World} {b i : Nat} {x : Value} (h : CSt w b i x W) : CSt w b i x W.drew := ⟨h.1, h.2.1, h.2.2.drew⟩
theorem CSt.below {w W W' : World} {b i : Nat} {x : Value} (h : CSt w b i x W) (hb : Below W.heap.size W W') : CSt w b i x W' :=
  ⟨by rw [hb.cell (p := ⟨b, i, none⟩) h.2.1]; exact h.1, Nat.lt_of_lt_of_le h.2.1 hb.size, bel_trans h.2.2 hb⟩

theorem refByte_any (n : Nat) (hn : n < 256) (w : World) :
    Calls Tryz.prog 49 #[.int .u64 n, .int .i64 1] w fun e w' => e = .returned (.string (str [UInt8.ofNat n])) ∧ Below w.heap.size w w' := by
  have h := refBytes_any n 1 (by omega) (by omega) w
  have e : beBytes 1 n = [UInt8.ofNat n] := by
    show [UInt8.ofNat (n / 256 ^ 0 % 256)] = _
    rw [Nat.pow_zero, Nat.div_one, Nat.mod_eq_of_lt hn]
  rw [e] at h
  exact h

end Go.Proofs.YtcdhllajdpalaaaGreatDoor
