/-
  A row of bytes that was made of a text: read, written, made a text again.
-/
import Derived.Test.YtcdhllajdpalaaaGreatDoorOpA
import Derived.Laws.IdiomStrings
namespace Go.Proofs.YtcdhllajdpalaaaGreatDoor
open Go.ChangeShapes Go.WideShapes Go.ChangeAt Go.RowKit
set_option linter.unusedVariables false
set_option linter.unusedSimpArgs false

/-- The bytes l stand at the head of block g, and may be written. -/
def BRow (w : World) (g : Nat) (l : List UInt8) : Prop := ∃ (cur : Array Value) (lo hi : Nat), w.heap[g]? = some (.cells cur 5 (lo, hi)) ∧ l.length ≤ lo ∧ l.length ≤ cur.size ∧ ∀ j (hj : j < l.length), cur[j]? = some (byteV l[j])

theorem BRow.lt {w : World} {g : Nat} {l : List UInt8} (h : BRow w g l) : g < w.heap.size := by
  obtain ⟨cur, lo, hi, h1, _⟩ := h
  rcases Nat.lt_or_ge g w.heap.size with hlt | hge
  · exact hlt
  · rw [Array.getElem?_eq_none hge] at h1; cases h1
theorem BRow.same {w w' : World} {g : Nat} {l : List UInt8} (h : BRow w g l) (e : w'.heap[g]? = w.heap[g]?) : BRow w' g l := by
  unfold BRow; rw [e]; exact h
theorem BRow.alloc {w : World} {g : Nat} {l : List UInt8} (h : BRow w g l) (o : Obj) : BRow (w.alloc o) g l := h.same (by first | exact heap_alloc_old w o h.lt | exact heap_alloc_old w o _ h.lt)
theorem BRow.drew {w : World} {g : Nat} {l : List UInt8} (h : BRow w g l) : BRow w.drew g l := h
theorem BRow.cell {w : World} {g : Nat} {l : List UInt8} (h : BRow w g l) (j : Nat) (hj : j < l.length) : w.cell? ⟨g, j, none⟩ = some (byteV l[j]) := by
  obtain ⟨cur, lo, hi, h1, h2, h3, h4⟩ := h
  rw [cell_of_row w g j _ _ _ h1]; exact h4 j hj
theorem BRow.free {w : World} {g : Nat} {l : List UInt8} (h : BRow w g l) (j : Nat) (hj : j < l.length) : w.frozen? ⟨g, j, none⟩ = false := by
  obtain ⟨cur, lo, hi, h1, h2, h3, h4⟩ := h
  unfold World.frozen?
  rw [h1]
  simp
  omega
theorem BRow.set {w : World} {g : Nat} {l : List UInt8} (h : BRow w g l) (p : Nat) (b : UInt8) (c : Int) (hc : c = (b.toNat : Int)) : BRow (w.setCell ⟨g, p, none⟩ (.int .u8 c)) g (l.set p b) := by
  subst hc
  have hlt := h.lt
  obtain ⟨cur, lo, hi, h1, h2, h3, h4⟩ := h
  obtain ⟨_, hk⟩ := Array.getElem?_eq_some_iff.1 h1
  refine ⟨cur.setIfInBounds p (byteV b), lo, hi, ?_, by simpa using h2, by simpa using h3, fun j hj => ?_⟩
  · show (w.heap.modify g _)[g]? = _
    rw [Array.getElem?_eq_getElem (by rw [Array.size_modify]; exact hlt), Array.getElem_modify_self, hk]
    rfl
  · have hj' : j < l.length := by simpa using hj
    rw [Array.getElem?_setIfInBounds]
    by_cases e : p = j
    · subst e
      simp
      omega
    · rw [if_neg e, h4 j hj', List.getElem_set_ne e]
theorem BRow.conv {w : World} {g : Nat} {l : List UInt8} (h : BRow w g l) (cap : Nat) : (convert 36 9 (.slice (some ⟨g, 0, none⟩) l.length cap)).run Tryz.prog w = .ok (.string (str l)) w :=
  run_convert_bytes_back w 36 9 5 ⟨g, 0, none⟩ cap l Tryz.underlying36 Tryz.underlying5 Tryz.underlying9 (fun j hj => by
    rw [show (⟨g, 0, none⟩ : Addr).add j = ⟨g, j, none⟩ from by simp [Addr.add]; exact fun h => h.symm]
    exact h.cell j hj)
/-- '[]byte(s)'. -/
theorem conv_row (w : World) (l : List UInt8) : ∃ cap o, (convert 9 36 (.string (str l))).run Tryz.prog w = .ok (.slice (some ⟨w.heap.size, 0, none⟩) l.length cap) (w.drew.alloc o) ∧ BRow (w.drew.alloc o) w.heap.size l := by
  have h := run_bytes_of_string (P := Tryz.prog) w 9 36 5 (str l) Tryz.underlying9 Tryz.underlying36 Tryz.underlying5
  have hge := grownCap_ge w (str l).size 0 5
  generalize grownCap w (str l).size 0 5 = cap at *
  rw [str_size] at *
  refine ⟨cap, _, h, bytesRow (str l) cap, (bytesRow (str l) cap).size, (bytesRow (str l) cap).size + 1, heap_alloc_new w.drew _, ?_, ?_, fun j hj => ?_⟩
  · unfold bytesRow; simp [str]
  · unfold bytesRow; simp [str]
  · unfold bytesRow
    rw [Array.getElem?_append_left (by simpa [str] using hj)]
    simp [str, hj, byteV]
end Go.Proofs.YtcdhllajdpalaaaGreatDoor
