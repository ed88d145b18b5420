/-
  The law SumBit, walked.
-/
import Derived.Test.YtjbcjcfmjagbkaaGreatDoorLawSum
import Derived.Test.YtjbcjcfmjagbkaaGreatDoorRowC
namespace Go.Proofs.YtjbcjcfmjagbkaaGreatDoor
open Go.ChangeShapes Go.WideShapes Go.ChangeAt Go.RowKit
set_option linter.unusedVariables false

theorem pow_256 (k : Nat) (hk : k < 8) : (2 : Int) ^ k % 256 = ((2 ^ k : Nat) : Int) := by
  have : ∀ k : Fin 8, (2 : Int) ^ k.val % 256 = ((2 ^ k.val : Nat) : Int) := by decide +kernel
  exact this ⟨k, hk⟩

theorem row_new (W : World) (o : Obj) : (W.alloc o).drew.heap[W.heap.size]? = some o := heap_alloc_new W o
theorem row_old (W : World) (o o' : Obj) : ((W.alloc o).alloc o').drew.heap[W.heap.size]? = some o := by
  show ((W.alloc o).alloc o').heap[W.heap.size]? = some o
  have h1 := heap_alloc_new W o
  have hlt : W.heap.size < (W.alloc o).heap.size := by simp
  rw [Below.heap_alloc _ _ _ hlt]
  exact h1
theorem row_second (W : World) (o o' : Obj) : ((W.alloc o).alloc o').drew.heap[W.heap.size + 1]? = some o' := by
  show ((W.alloc o).alloc o').heap[W.heap.size + 1]? = some o'
  rw [show W.heap.size + 1 = (W.alloc o).heap.size by simp]
  exact heap_alloc_new _ _
theorem sum1_at (W : World) (H : Nat) (l : List UInt8) (x : Nat) (hl : l.length ≤ 1000000) (hx : M.sum16 l = x) (hc : W.heap[H]? = some (.cells #[.string (str l)] 9)) :
    Calls Tryz.prog 50 #[.slice (some ⟨H, 0, none⟩) 1 1] W fun e w' => e = .returned (.int .i64 x) ∧ W = w' := by
  have hj : M.joined [str l] = l := by simp [M.joined, str]
  have hst : StrsAt W (.slice (some ⟨H, 0, none⟩) 1 1) [str l] := by
    refine ⟨.inr ⟨⟨H, 0, none⟩, 1, rfl, fun i hi => ?_⟩, by simp, ?_, by rw [hj]; omega⟩
    · have : i = 0 := by simp at hi; omega
      subst this
      have hadd : (⟨H, 0, none⟩ : Addr).add 0 = ⟨H, 0, none⟩ := by unfold Addr.add; split <;> simp_all
      rw [hadd, cell_of_row _ _ _ _ _ _ hc]
      rfl
    · intro s hs; simp at hs; subst hs; rw [str_size]; unfold maxLen; omega
  have h := sumOf_at hst
  rw [hj, hx] at h
  exact h

end Go.Proofs.YtjbcjcfmjagbkaaGreatDoor
