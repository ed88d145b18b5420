/-
  Signs and numbers read byte by byte: as by runes.
-/
import Derived.Test.YtjbcjcfmjagbkaaGreatDoorCodeE
import Derived.Laws.RangeAny
import Derived.Lib.TrimAscii
import Derived.Lib.TrimUEq
namespace Go.Proofs.YtjbcjcfmjagbkaaGreatDoor
namespace M
theorem decodeL_high (b : UInt8) (t : List UInt8) (h : 128 ≤ b.toNat) : 128 ≤ (Lib.decodeL (b :: t)).1 := by
  have h1 := (decode_high (str (b :: t)) 0 (Nat.succ_pos _) h).1
  rw [← Lib.decodeL_drop] at h1
  exact h1
def sgnB : Nat → List UInt8 → Option Nat
  | c, [] => some c
  | c, b :: t => if isSgn b.toNat = true then sgnB (c * 256 + b.toNat) t else none
def numB (base : Nat) : Nat → List UInt8 → Option Nat
  | n, [] => some n
  | n, b :: t => match digitR b.toNat with
    | none => none
    | some d => if base ≤ d then none else numB base (n * base + d) t
theorem isSgn_high {r : Nat} (h : 128 ≤ r) : isSgn r = false := by
  cases hs : isSgn r with
  | false => rfl
  | true => have := isSgn_low hs; omega
theorem digitR_high {r : Nat} (h : 128 ≤ r) : digitR r = none := by
  unfold digitR
  rw [if_neg (by omega), if_neg (by omega), if_neg (by omega)]
theorem sgnF_bytes : ∀ (l : List UInt8) (c : Nat), sgnF c (runes l) = sgnB c l
  | [], c => rfl
  | b :: t, c => by
    rw [runes_step _ (List.cons_ne_nil _ _)]
    by_cases h : b.toNat < 128
    · rw [Lib.decodeL_ascii b t h]
      show (if isSgn b.toNat = true then sgnF (c * 256 + b.toNat) (runes t) else none) = if isSgn b.toNat = true then sgnB (c * 256 + b.toNat) t else none
      rw [sgnF_bytes t]
    · show (if isSgn (Lib.decodeL (b :: t)).1 = true then _ else none) = if isSgn b.toNat = true then _ else none
      rw [isSgn_high (decodeL_high b t (by omega)), isSgn_high (by omega : 128 ≤ b.toNat)]
      rfl
theorem numF_bytes (base : Nat) : ∀ (l : List UInt8) (n : Nat), numF base n (runes l) = numB base n l
  | [], n => rfl
  | b :: t, n => by
    rw [runes_step _ (List.cons_ne_nil _ _)]
    by_cases h : b.toNat < 128
    · rw [Lib.decodeL_ascii b t h]
      show (match digitR b.toNat with | none => none | some d => if base ≤ d then none else numF base (n * base + d) (runes t)) = match digitR b.toNat with | none => none | some d => if base ≤ d then none else numB base (n * base + d) t
      cases digitR b.toNat with
      | none => rfl
      | some d => show (if _ then _ else _) = if _ then _ else _; rw [numF_bytes base t]
    · show (match digitR (Lib.decodeL (b :: t)).1 with | none => none | some d => _) = match digitR b.toNat with | none => none | some d => _
      rw [digitR_high (decodeL_high b t (by omega)), digitR_high (by omega : 128 ≤ b.toNat)]
/-- A code by its signs, byte by byte. -/
theorem ofSgn_bytes (l : List UInt8) : ofSgn l = if l = [] ∨ 4 < l.length then none else match sgnB 0 l with
    | none => none
    | some c => some (padC (4 - l.length) c) := by
  unfold ofSgn; rw [sgnF_bytes]; rfl
theorem ofDig_bytes (b most : Nat) (l : List UInt8) : ofDig b most l = if l = [] ∨ most < l.length then none else match numB b 0 l with
    | none => none
    | some n => if 4294967295 ≤ n then none else some n := by
  unfold ofDig; rw [numF_bytes]; rfl
/-- Reading goes on behind what was read. -/
theorem numB_append (base : Nat) : ∀ (a t : List UInt8) (n : Nat), numB base n (a ++ t) = match numB base n a with | none => none | some m => numB base m t
  | [], t, n => rfl
  | x :: a, t, n => by
    show (match digitR x.toNat with | none => none | some d => if base ≤ d then none else numB base (n * base + d) (a ++ t)) = match (match digitR x.toNat with | none => none | some d => if base ≤ d then none else numB base (n * base + d) a) with | none => none | some m => numB base m t
    cases digitR x.toNat with
    | none => rfl
    | some d =>
      by_cases h : base ≤ d
      · simp only [if_pos h]
      · simp only [if_neg h]; exact numB_append base a t _
theorem sgnB_append : ∀ (a t : List UInt8) (c : Nat), sgnB c (a ++ t) = match sgnB c a with | none => none | some m => sgnB m t
  | [], t, c => rfl
  | x :: a, t, c => by
    show (if isSgn x.toNat = true then sgnB (c * 256 + x.toNat) (a ++ t) else none) = match (if isSgn x.toNat = true then sgnB (c * 256 + x.toNat) a else none) with | none => none | some m => sgnB m t
    by_cases h : isSgn x.toNat = true
    · simp only [if_pos h]; exact sgnB_append a t _
    · simp only [if_neg h]
end M
end Go.Proofs.YtjbcjcfmjagbkaaGreatDoor
