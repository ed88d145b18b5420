/-
  Small laws on worlds of which nothing that was there has turned.
-/
import Derived.WalkKit
import Derived.Deep.Draws
namespace Go.Proofs.YtbiglbclifbmhaaGreatDoor
open Go.RowKit

/-- Nothing that was there has turned: two such steps, a new block, draws. -/
theorem bel_trans {a b c : World} (h : Below a.heap.size a b) (k : Below b.heap.size b c) : Below a.heap.size a c := h.trans (k.mono h.size)
theorem bel_alloc (w : World) (o : Obj) : Below w.heap.size w (w.alloc o) := (Below.refl _ _).alloc (Nat.le_refl _) o
theorem bel_drewN (w : World) (n : Nat) : Below w.heap.size w (w.drewN n) := ⟨rfl, rfl, rfl, Nat.le_refl _, fun _ _ => rfl⟩

end Go.Proofs.YtbiglbclifbmhaaGreatDoor
