/-
  What Text, and the document's own Bytes and Number, come to.
-/
import Derived.Test.YtnhlachoimlhhaaGreatDoorChecked
import Derived.Test.YtnhlachoimlhhaaGreatDoorSumMath
import Derived.ProofKit
import Derived.LoopTactic
import Derived.Outline
import Derived.Deep.Cut
namespace Go.Proofs.YtnhlachoimlhhaaGreatDoor
open Go.ChangeShapes Go.WideShapes Go.ChangeAt Go.RowKit
set_option linter.unusedVariables false

/-- A text of these bytes. -/
def str (l : List UInt8) : ByteArray := ⟨l.toArray⟩
theorem str_size (l : List UInt8) : (str l).size = l.length := rfl
theorem str_list (l : List UInt8) : (str l).data.toList = l := rfl
theorem str_eq (s : ByteArray) : s = str s.data.toList := by apply ByteArray.ext; simp [str]
theorem str_append (x y : List UInt8) : str x ++ str y = str (x ++ y) := ByteArray.mk_append_mk x y
theorem ret_str {s r : ByteArray} (h : s = r) : Ending.returned (.string s) = .returned (.string r) := by rw [h]

theorem text_any (s : ByteArray) (n : Nat) (hn : n ≤ 9223372036854775807) (hs : s.size ≤ maxLen) (w : World) :
    Calls Tryz.prog 17 #[.string s, .int .i64 n] w fun e w' => e = .returned (.string (s.extract 0 (min s.size n))) ∧ w = w' := by
  unfold maxLen at hs
  by_cases h : n < s.size
  · have hm : min s.size n = n := by omega
    rw [hm]
    clear hm
    go_enter Tryz.func17, Tryz.ntmps17
    go_wp2
    go_ret
    exact ⟨rfl, rfl⟩
  · have hm : min s.size n = s.size := by omega
    rw [hm, show s.extract 0 s.size = s by simp]
    clear hm
    go_enter Tryz.func17, Tryz.ntmps17
    go_wp2
    all_goals go_ret
    all_goals exact ⟨rfl, rfl⟩

/-- The lowest k bytes of a number, the highest first. -/
def beBytes : Nat → Nat → List UInt8
  | 0, _ => []
  | k + 1, n => UInt8.ofNat (n / 256 ^ k % 256) :: beBytes k n
theorem beBytes_length (k n : Nat) : (beBytes k n).length = k := by induction k with | zero => rfl | succ k ih => simp [beBytes, ih]

theorem refBytes_any (n : Nat) (k : Nat) (hn : n < 18446744073709551616) (hk : k ≤ 64) (w : World) :
    Calls Tryz.prog 105 #[.int .u64 n, .int .i64 k] w fun e w' => e = .returned (.string (str (beBytes k n))) ∧ Below w.heap.size w w' := by
  go_enter Tryz.func105, Tryz.ntmps105
  go_wp2
  go_loopw [0, 1, 5] (fun u v x wr => ∃ (i m : Nat) (s : ByteArray), i ≤ k ∧ u = .int .u64 m ∧ v = .int .i64 i ∧ x = .string s ∧ m < 18446744073709551616 ∧ Hid (m = n / 256 ^ (k - i)) ∧ Hid (s = str (beBytes (k - i) n)) ∧ s.size ≤ 64 ∧ Below w.heap.size w wr) (fun _ v _ _ => (intOf v).toNat)
  case atStart => exact ⟨k, n, ByteArray.empty, Nat.le_refl _, rfl, rfl, rfl, hn, Lib.hid (by simp), Lib.hid (by rw [Nat.sub_self]; rfl), by simp, Below.refl _ _⟩
  case round =>
    obtain ⟨i, m, s, hi, rfl, rfl, rfl, hm, hmn, hs, hsz, hb⟩ := hrel
    rcases i with _ | i
    · rw [Nat.sub_zero] at hs
      go_wp2
      go_ret
      exact ⟨ret_str hs.out, hb⟩
    · have hlt : m % 256 < 256 := Nat.mod_lt _ (by decide)
      obtain ⟨b, hbb⟩ : ∃ b, str [UInt8.ofNat (m % 256)] = b := ⟨_, rfl⟩
      have hb1 : b.size = 1 := by rw [← hbb]; rfl
      have hconv : (convert 90 9 (.slice (some ⟨wr.heap.size, 0, none⟩) 1 1)).run Tryz.prog (wr.alloc (.cells #[.int .u8 ((m : Int) % 256)] 5)) = .ok (.string b) (wr.alloc (.cells #[.int .u8 ((m : Int) % 256)] 5)) := by
        rw [← hbb]
        refine run_convert_bytes_back (wr.alloc (.cells #[.int .u8 ((m : Int) % 256)] 5)) 90 9 5 ⟨wr.heap.size, 0, none⟩ 1 [UInt8.ofNat (m % 256)] Tryz.underlying90 Tryz.underlying5 Tryz.underlying9 (fun j hj => ?_)
        obtain rfl : j = 0 := by simpa using hj
        have e : (UInt8.ofNat (m % 256)).toNat = m % 256 := by simp
        exact (World.cell?_alloc_mark wr _ _ (0, 0) 0).trans (by simp [e])
      have HBB := Lib.hid hbb; clear hbb
      have hbs : b.size + s.size ≤ 9223372036854775807 := by omega
      have hki : k - i = (k - (i + 1)) + 1 := by omega
      have hnew : b ++ s = str (beBytes (k - i) n) := by
        rw [← HBB.out, hs.out, str_append, hki, beBytes, ← hmn.out]; rfl
      have hnm : m / 256 = n / 256 ^ (k - i) := by rw [hmn.out, hki, Nat.div_div_eq_div_mul, Nat.pow_succ]
      have hns : (b ++ s).size ≤ 64 := by rw [hnew, str_size, beBytes_length]; omega
      have HNEW := Lib.hid hnew; have HNM := Lib.hid hnm; have HNS := Lib.hid hns
      clear hki hnew hnm hns hb1
      go_wp2
      exact ⟨⟨i, m / 256, b ++ s, by omega, by simp, rfl, rfl, by omega, HNM, HNEW, HNS.out, hb.alloc hb.size _⟩, by simp [intOf]⟩
end Go.Proofs.YtnhlachoimlhhaaGreatDoor
