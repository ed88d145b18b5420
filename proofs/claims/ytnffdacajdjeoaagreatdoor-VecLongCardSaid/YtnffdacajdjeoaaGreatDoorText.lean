/-
  What Text, and the document's own Bytes and Number, come to.
-/
import Derived.Test.YtnffdacajdjeoaaGreatDoorChecked
import Derived.Test.YtnffdacajdjeoaaGreatDoorSumMath
import Derived.ProofKit
import Derived.LoopTactic
import Derived.Outline
import Derived.Deep.Cut
namespace Go.Proofs.YtnffdacajdjeoaaGreatDoor
open Go.ChangeShapes Go.WideShapes Go.ChangeAt Go.RowKit
set_option linter.unusedVariables false

/-- A text of these bytes. -/
def str (l : List UInt8) : ByteArray := ⟨l.toArray⟩
theorem str_size (l : List UInt8) : (str l).size = l.length := rfl
theorem str_list (l : List UInt8) : (str l).data.toList = l := rfl
theorem str_eq (s : ByteArray) : s = str s.data.toList := by apply ByteArray.ext; simp [str]
theorem str_append (x y : List UInt8) : str x ++ str y = str (x ++ y) := ByteArray.mk_append_mk x y
theorem ret_str {s r : ByteArray} (h : s = r) : Ending.returned (.string s) = .returned (.string r) := by rw [h]

theorem text_any (s : ByteArray) (n : Nat) (hn : n ≤ 9223372036854775807) (hs : s.size ≤ maxLen) (w : World) :
    Calls Tryz.prog 19 #[.string s, .int .i64 n] w fun e w' => e = .returned (.string (s.extract 0 (min s.size n))) ∧ w = w' := by
  unfold maxLen at hs
  by_cases h : n < s.size
  · have hm : min s.size n = n := by omega
    rw [hm]
    clear hm
    go_enter Tryz.func19, Tryz.ntmps19
    go_wp2
    go_ret
    exact ⟨rfl, rfl⟩
  · have hm : min s.size n = s.size := by omega
    rw [hm, show s.extract 0 s.size = s by simp]
    clear hm
    go_enter Tryz.func19, Tryz.ntmps19
    go_wp2
    all_goals go_ret
    all_goals exact ⟨rfl, rfl⟩

/-- The lowest k bytes of a number, the highest first. -/
def beBytes : Nat → Nat → List UInt8
  | 0, _ => []
  | k + 1, n => UInt8.ofNat (n / 256 ^ k % 256) :: beBytes k n
theorem beBytes_length (k n : Nat) : (beBytes k n).length = k := by induction k with | zero => rfl | succ k ih => simp [beBytes, ih]

end Go.Proofs.YtnffdacajdjeoaaGreatDoor
