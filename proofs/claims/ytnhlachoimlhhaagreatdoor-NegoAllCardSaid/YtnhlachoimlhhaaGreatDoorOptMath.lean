/-
  Options as bytes and back, on plain lists.
-/
import Derived.Lib.Hide
namespace Go.Proofs.YtnhlachoimlhhaaGreatDoor.M

structure Opt where
  t : Int
  d : List UInt8

def optMay (o : Opt) : Bool := decide (0 ≤ o.t ∧ o.t ≤ 255 ∧ (o.t < 32 ∧ o.d.length = 0 ∨ 32 ≤ o.t ∧ o.d.length ≤ 253))
def optBytes (o : Opt) : List UInt8 := if o.t < 32 then [UInt8.ofNat o.t.toNat] else UInt8.ofNat o.t.toNat :: UInt8.ofNat (2 + o.d.length) :: o.d
def padLen (n : Nat) : Nat := (4 - n % 4) % 4
def pad4 (l : List UInt8) : List UInt8 := l ++ List.replicate (padLen l.length) 0
def optsBytes (os : List Opt) : List UInt8 := (os.map optBytes).flatten
def putOpts (os : List Opt) : List UInt8 := if os.all optMay = true then pad4 (optsBytes os) else []

theorem optsBytes_snoc (os : List Opt) (o : Opt) : optsBytes (os ++ [o]) = optsBytes os ++ optBytes o := by simp [optsBytes]
theorem optBytes_len {o : Opt} (h : optMay o = true) : 1 ≤ (optBytes o).length ∧ (optBytes o).length ≤ 255 := by
  have := of_decide_eq_true h
  unfold optBytes; split
  · exact ⟨by simp, by simp⟩
  · exact ⟨by simp, by simp; omega⟩
theorem optsBytes_len (os : List Opt) (h : os.all optMay = true) : (optsBytes os).length ≤ 255 * os.length := by
  induction os with
  | nil => simp [optsBytes]
  | cons o os ih =>
    simp only [List.all_cons, Bool.and_eq_true] at h
    have := ih h.2
    have h1 := (optBytes_len h.1).2
    simp only [optsBytes, List.map_cons, List.flatten_cons, List.length_append, List.length_cons] at *
    omega
theorem padLen_lt (n : Nat) : padLen n < 4 := by unfold padLen; omega
theorem padLen_mod (n : Nat) : (n + padLen n) % 4 = 0 := by unfold padLen; omega
theorem pad4_len (l : List UInt8) : (pad4 l).length % 4 = 0 ∧ l.length ≤ (pad4 l).length ∧ (pad4 l).length ≤ l.length + 3 := by
  unfold pad4
  rw [List.length_append, List.length_replicate]
  have := padLen_lt l.length
  exact ⟨padLen_mod _, by omega, by omega⟩

def bAt (l : List UInt8) (i : Nat) : Nat := (l.getD i 0).toNat
theorem bAt_lt (l : List UInt8) (i : Nat) : bAt l i < 256 := (l.getD i 0).toNat_lt
/-- The option at the beginning of bytes that are not empty, and how many bytes it has; 0: none. -/
def firstN (l : List UInt8) : Nat := if bAt l 0 < 32 then 1 else if l.length < 2 then 0 else if bAt l 1 < 2 ∨ l.length < bAt l 1 then 0 else bAt l 1
def firstO (l : List UInt8) : Opt := if bAt l 0 < 32 then ⟨bAt l 0, []⟩ else if firstN l = 0 then ⟨0, []⟩ else ⟨bAt l 0, (l.take (bAt l 1)).drop 2⟩
theorem firstN_le (l : List UInt8) (h : l ≠ []) : firstN l ≤ l.length := by
  have : l.length ≠ 0 := fun e => h (List.eq_nil_of_length_eq_zero e)
  unfold firstN; (repeat' split) <;> omega
theorem firstO_le (l : List UInt8) : 0 ≤ (firstO l).t ∧ (firstO l).t ≤ 255 ∧ (firstO l).d.length ≤ 253 := by
  have h0 := bAt_lt l 0
  have h1 := bAt_lt l 1
  unfold firstO
  split
  · exact ⟨by simp, by simp; omega, by simp⟩
  · split
    · exact ⟨by simp, by simp, by simp⟩
    · exact ⟨by simp, by simp; omega, by simp; omega⟩

/-- What is read of bytes; 'none': they are no options. 'w': an option that must be known waits for the one behind it. -/
def getF : Nat → Bool → List UInt8 → Option (List Opt)
  | 0, w, l => if l = [] then (if w = true then none else some []) else none
  | f + 1, w, l => if l = [] then (if w = true then none else some []) else
    if firstN l = 0 then none else
    if (firstO l).t = 0 then getF f w (l.drop (firstN l)) else
    if w = true ∧ (firstO l).t = 1 then none else
    (getF f (decide ((firstO l).t = 1)) (l.drop (firstN l))).map (firstO l :: ·)
def getOpts (l : List UInt8) : Option (List Opt) := getF l.length false l

theorem getF_more (f : Nat) : ∀ w l g, l.length ≤ f → l.length ≤ g → getF f w l = getF g w l := by
  induction f with
  | zero =>
    intro w l g h _
    obtain rfl : l = [] := List.eq_nil_of_length_eq_zero (by omega)
    cases g <;> simp [getF]
  | succ f ih =>
    intro w l g h hg
    cases g with
    | zero =>
      obtain rfl : l = [] := List.eq_nil_of_length_eq_zero (by omega)
      simp [getF]
    | succ g =>
      unfold getF
      by_cases hl : l = []
      · rw [if_pos hl, if_pos hl]
      rw [if_neg hl, if_neg hl]
      by_cases h0 : firstN l = 0
      · rw [if_pos h0, if_pos h0]
      rw [if_neg h0, if_neg h0]
      have e : ∀ w, getF f w (l.drop (firstN l)) = getF g w (l.drop (firstN l)) := fun w => ih w _ g (by rw [List.length_drop]; omega) (by rw [List.length_drop]; omega)
      rw [e, e]
end Go.Proofs.YtnhlachoimlhhaaGreatDoor.M
