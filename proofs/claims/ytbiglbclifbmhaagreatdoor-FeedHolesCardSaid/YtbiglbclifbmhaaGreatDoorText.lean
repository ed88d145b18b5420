/-
  What Text, and the document's own Bytes and Number, come to.
-/
import Derived.Test.YtbiglbclifbmhaaGreatDoorChecked
import Derived.Test.YtbiglbclifbmhaaGreatDoorSumMath
import Derived.ProofKit
import Derived.LoopTactic
import Derived.Outline
import Derived.Deep.Cut
namespace Go.Proofs.YtbiglbclifbmhaaGreatDoor
open Go.ChangeShapes Go.WideShapes Go.ChangeAt Go.RowKit
set_option linter.unusedVariables false

/-- A text of these bytes. -/
def str (l : List UInt8) : ByteArray := ⟨l.toArray⟩
theorem str_size (l : List UInt8) : (str l).size = l.length := rfl
theorem str_list (l : List UInt8) : (str l).data.toList = l := rfl
theorem str_eq (s : ByteArray) : s = str s.data.toList := by apply ByteArray.ext; simp [str]
theorem str_append (x y : List UInt8) : str x ++ str y = str (x ++ y) := ByteArray.mk_append_mk x y
theorem ret_str {s r : ByteArray} (h : s = r) : Ending.returned (.string s) = .returned (.string r) := by rw [h]

/-- The lowest k bytes of a number, the highest first. -/
def beBytes : Nat → Nat → List UInt8
  | 0, _ => []
  | k + 1, n => UInt8.ofNat (n / 256 ^ k % 256) :: beBytes k n
theorem beBytes_length (k n : Nat) : (beBytes k n).length = k := by induction k with | zero => rfl | succ k ih => simp [beBytes, ih]

end Go.Proofs.YtbiglbclifbmhaaGreatDoor
