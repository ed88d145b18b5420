/-
  A code's bytes.
-/
import Derived.Test.YtjbcjcfmjagbkaaGreatDoorCodeJ
namespace Go.Proofs.YtjbcjcfmjagbkaaGreatDoor
open Go.ChangeShapes Go.WideShapes Go.ChangeAt Go.RowKit
set_option linter.unusedVariables false
/-- The array's cells when its last j are set. -/
def cs4 (n j : Nat) : Array Value := #[.int .u8 (if 4 ≤ j then n / 16777216 % 256 else 0 : Nat), .int .u8 (if 3 ≤ j then n / 65536 % 256 else 0 : Nat), .int .u8 (if 2 ≤ j then n / 256 % 256 else 0 : Nat), .int .u8 (if 1 ≤ j then n % 256 else 0 : Nat)]
set_option maxHeartbeats 4000000 in
set_option maxRecDepth 100000 in
theorem bytesOf_any (n : Nat) (hn : n < 4294967296) (w : World) :
    Calls Tryz.prog 81 #[.int .u32 n] w fun e w' => e = .returned (.string (str (beBytes 4 n))) ∧ Below w.heap.size w w' := by
  go_enter Tryz.func81, Tryz.ntmps81
  go_wp2
  go_loopw [5] (fun i wr => ∃ j : Nat, j ≤ 4 ∧ i = .int .i64 (j : Int) ∧ wr = w.alloc (.cells (cs4 n j) 142)) (fun i _ => 4 - (intOf i).toNat)
  case atStart => exact ⟨0, by omega, rfl, rfl⟩
  case round =>
    obtain ⟨j, hj, rfl, rfl⟩ := hrel
    rcases (show j = 0 ∨ j = 1 ∨ j = 2 ∨ j = 3 ∨ j = 4 by omega) with rfl | rfl | rfl | rfl | rfl
    · rw [show cs4 n 0 = #[.int .u8 0, .int .u8 0, .int .u8 0, .int .u8 0] from rfl]
      go_wp2
      refine ⟨⟨1, by omega, rfl, ?_⟩, by decide⟩
      show World.alloc w _ = World.alloc w _
      congr 1
    · rw [show cs4 n 1 = #[.int .u8 0, .int .u8 0, .int .u8 0, .int .u8 ((n % 256 : Nat) : Int)] from rfl]
      go_wp2
      refine ⟨⟨2, by omega, rfl, ?_⟩, by decide⟩
      simp [cs4]
    · rw [show cs4 n 2 = #[.int .u8 0, .int .u8 0, .int .u8 ((n / 256 % 256 : Nat) : Int), .int .u8 ((n % 256 : Nat) : Int)] from rfl]
      go_wp2
      refine ⟨⟨3, by omega, rfl, ?_⟩, by decide⟩
      simp [cs4]
    · rw [show cs4 n 3 = #[.int .u8 0, .int .u8 ((n / 65536 % 256 : Nat) : Int), .int .u8 ((n / 256 % 256 : Nat) : Int), .int .u8 ((n % 256 : Nat) : Int)] from rfl]
      go_wp2
      refine ⟨⟨4, by omega, rfl, ?_⟩, by decide⟩
      simp [cs4]
      rw [show (n : Int) / 16777216 % 256 = (n : Int) / 16777216 by omega]
    · rw [show cs4 n 4 = #[.int .u8 ((n / 16777216 % 256 : Nat) : Int), .int .u8 ((n / 65536 % 256 : Nat) : Int), .int .u8 ((n / 256 % 256 : Nat) : Int), .int .u8 ((n % 256 : Nat) : Int)] from rfl]
      have hconv : (convert 36 9 (.slice (some ⟨w.heap.size, 0, none⟩) 4 4)).run Tryz.prog (w.alloc (.cells #[.int .u8 ((n : Int) / 16777216 % 256), .int .u8 ((n : Int) / 65536 % 256), .int .u8 ((n : Int) / 256 % 256), .int .u8 ((n : Int) % 256)] 142)) = .ok (.string (str (beBytes 4 n))) (w.alloc (.cells #[.int .u8 ((n : Int) / 16777216 % 256), .int .u8 ((n : Int) / 65536 % 256), .int .u8 ((n : Int) / 256 % 256), .int .u8 ((n : Int) % 256)] 142)) := by
        refine run_convert_bytes_back _ 36 9 5 ⟨w.heap.size, 0, none⟩ 4 (beBytes 4 n) Tryz.underlying36 Tryz.underlying5 Tryz.underlying9 (fun j hj => ?_)
        have hj4 : j < 4 := by rw [beBytes_length] at hj; exact hj
        rcases (show j = 0 ∨ j = 1 ∨ j = 2 ∨ j = 3 by omega) with rfl | rfl | rfl | rfl
        · exact (World.cell?_alloc_mark w _ _ (0, 0) 0).trans (by simp [beBytes])
        · exact (World.cell?_alloc_mark w _ _ (0, 0) 1).trans (by simp [beBytes])
        · exact (World.cell?_alloc_mark w _ _ (0, 0) 2).trans (by simp [beBytes])
        · exact (World.cell?_alloc_mark w _ _ (0, 0) 3).trans (by simp [beBytes])
      go_wp2
      go_ret
      exact ⟨rfl, (Below.refl _ w).alloc (Nat.le_refl _) _⟩
end Go.Proofs.YtjbcjcfmjagbkaaGreatDoor
