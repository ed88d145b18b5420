/-
  Blocks of cells that are known whole; worlds in which only some blocks have turned.
-/
import Derived.Test.YtnhlachoimlhhaaGreatDoorMatW
import Derived.Laws.Rows
import Derived.Laws.Tables
import Derived.Laws.AppendOwn
namespace Go.Proofs.YtnhlachoimlhhaaGreatDoor
open Go.RowKit
set_option linter.unusedVariables false

/-- Block C holds these cells. -/
def BlkIs (cs : Array Value) (T : TypeId) (C : Nat) (w : World) : Prop := w.heap[C]? = some (.cells cs T (0, 0))
/-- Nothing that was there has turned but blocks of S. -/
structure Kept (S : List Nat) (w w' : World) : Prop where
  os : w'.os = w.os
  tape : w'.tape = w.tape
  output : w'.output = w.output
  size : w.heap.size ≤ w'.heap.size
  block : ∀ k, k < w.heap.size → k ∉ S → w'.heap[k]? = w.heap[k]?
theorem Kept.refl (S : List Nat) (w : World) : Kept S w w := ⟨rfl, rfl, rfl, Nat.le_refl _, fun _ _ _ => rfl⟩
theorem Kept.trans {S T : List Nat} {a b c : World} (h : Kept S a b) (k : Kept T b c) (hs : ∀ x, x ∈ T → x ∈ S ∨ a.heap.size ≤ x) : Kept S a c :=
  ⟨k.os.trans h.os, k.tape.trans h.tape, k.output.trans h.output, Nat.le_trans h.size k.size, fun i hi hn => (k.block i (Nat.lt_of_lt_of_le hi h.size) (fun hm => by rcases hs i hm with h1 | h1; exact hn h1; omega)).trans (h.block i hi hn)⟩
theorem Kept.trans' {S : List Nat} {a b c : World} (h : Kept S a b) (k : Kept S b c) : Kept S a c := h.trans k (fun x hx => .inl hx)
theorem Kept.more {S T : List Nat} {a b : World} (h : Kept S a b) (hs : ∀ x, x ∈ S → x ∈ T) : Kept T a b := ⟨h.os, h.tape, h.output, h.size, fun i hi hn => h.block i hi (fun hm => hn (hs i hm))⟩
theorem Kept.of_below {a b : World} (S : List Nat) (h : Below a.heap.size a b) : Kept S a b := ⟨h.os, h.tape, h.output, h.size, fun i hi _ => h.block i hi⟩
theorem Kept.alloc {S : List Nat} {a w : World} (h : Kept S a w) (o : Obj) : Kept S a (w.alloc o) := h.trans' (Kept.of_below S (bel_alloc w o))
theorem Kept.drewN {S : List Nat} {a w : World} (h : Kept S a w) (n : Nat) : Kept S a (w.drewN n) := h.trans' (Kept.of_below S (bel_drewN w n))
theorem Kept.drew {S : List Nat} {a w : World} (h : Kept S a w) : Kept S a w.drew := ⟨h.os, h.tape, h.output, h.size, h.block⟩
theorem Kept.setCell {S : List Nat} {a w : World} (h : Kept S a w) {p : Addr} (hp : p.block ∈ S ∨ a.heap.size ≤ p.block) (u : Value) : Kept S a (w.setCell p u) :=
  ⟨h.os, h.tape, h.output, by have := h.size; simpa [World.setCell] using this, fun k hk hn => by
    rw [Below.heap_setCell _ _ _ _ (fun e => by rcases hp with hp | hp; exact hn (e ▸ hp); omega)]; exact h.block k hk hn⟩
theorem Kept.below {S : List Nat} {a w : World} (h : Kept S a w) {B : Nat} (hB : B ≤ a.heap.size) (hs : ∀ x, x ∈ S → B ≤ x) : Below B a w :=
  ⟨h.os, h.tape, h.output, h.size, fun k hk => h.block k (by omega) (fun hm => by have := hs k hm; omega)⟩
theorem Kept.below0 {a w : World} (h : Kept [] a w) : Below a.heap.size a w := h.below (Nat.le_refl _) (fun x hx => by cases hx)
theorem Kept.grown {S : List Nat} {a w w' : World} {row : Option Nat} (h : Kept S a w) (hg : w.grownBy w' row) (hr : ∀ k, row = some k → k ∈ S ∨ a.heap.size ≤ k) : Kept S a w' :=
  ⟨hg.os.trans h.os, hg.tape.trans h.tape, hg.output.trans h.output, Nat.le_trans h.size hg.size, fun k hk hn => (hg.block k (Nat.lt_of_lt_of_le hk h.size) (fun e => by rcases hr k e.symm with h1 | h1; exact hn h1; omega)).trans (h.block k hk hn)⟩

theorem BlkIs.lt {cs : Array Value} {T : TypeId} {C : Nat} {w : World} (h : BlkIs cs T C w) : C < w.heap.size := (Array.getElem?_eq_some_iff.1 h).1
theorem BlkIs.kept {cs : Array Value} {T : TypeId} {C : Nat} {S : List Nat} {w w' : World} (h : BlkIs cs T C w) (k : Kept S w w') (hn : C ∉ S) : BlkIs cs T C w' := (k.block C h.lt hn).trans h
theorem BlkIs.below {cs : Array Value} {T : TypeId} {C : Nat} {w w' : World} (h : BlkIs cs T C w) (k : Below w.heap.size w w') : BlkIs cs T C w' := (k.block C h.lt).trans h
theorem BlkIs.drewN {cs : Array Value} {T : TypeId} {C : Nat} {w : World} (h : BlkIs cs T C w) (n : Nat) : BlkIs cs T C (w.drewN n) := h
theorem BlkIs.alloc {cs : Array Value} {T : TypeId} {C : Nat} {w : World} (h : BlkIs cs T C w) (o : Obj) : BlkIs cs T C (w.alloc o) := h.below (bel_alloc w o)
theorem BlkIs.new (cs : Array Value) (T : TypeId) (w : World) : BlkIs cs T w.heap.size (w.alloc (.cells cs T)) := heap_alloc_new w _
theorem BlkIs.cell {cs : Array Value} {T : TypeId} {C : Nat} {w : World} (h : BlkIs cs T C w) (i : Nat) : w.cell? ⟨C, i, none⟩ = cs[i]? := cell_of_row w C i cs T _ h
theorem BlkIs.free {cs : Array Value} {T : TypeId} {C : Nat} {w : World} (h : BlkIs cs T C w) (i : Nat) : w.frozen? ⟨C, i, none⟩ = false := frozen_of_row w C i cs T h
theorem BlkIs.set {cs : Array Value} {T : TypeId} {C : Nat} {w : World} (h : BlkIs cs T C w) (i : Nat) (v : Value) : BlkIs (cs.setIfInBounds i v) T C (w.setCell ⟨C, i, none⟩ v) := heap_setCell_same w C i cs T v h
theorem BlkIs.far {cs : Array Value} {T : TypeId} {C : Nat} {w : World} (h : BlkIs cs T C w) {p : Addr} (hp : C ≠ p.block) (v : Value) : BlkIs cs T C (w.setCell p v) := (Below.heap_setCell w p v C hp).trans h
theorem BlkIs.grown {cs : Array Value} {T : TypeId} {C : Nat} {w w' : World} {row : Option Nat} (h : BlkIs cs T C w) (hg : w.grownBy w' row) (hn : some C ≠ row) : BlkIs cs T C w' := (hg.block C h.lt hn).trans h
end Go.Proofs.YtnhlachoimlhhaaGreatDoor
