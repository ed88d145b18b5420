/-
  Plain mathematics of the checksum: words of two bytes, summed up; what goes beyond 16 bits added to the lowest 16.
-/
import Derived.Test.YtnhlachoimlhhaaGreatDoorMatW
namespace Go.Proofs.YtnhlachoimlhhaaGreatDoor.M
open Go

/-- The sum of the words of bytes; e: the first byte is the higher one of its word. -/
def wsum : Bool → List UInt8 → Nat
  | _, [] => 0
  | e, b :: r => (if e then 256 * b.toNat else b.toNat) + wsum (!e) r
/-- Which byte of a word comes n bytes further on. -/
def par (e : Bool) (n : Nat) : Bool := if n % 2 = 0 then e else !e

theorem par_succ (e : Bool) (n : Nat) : par (!e) n = par e (n + 1) := by
  unfold par
  rcases Nat.mod_two_eq_zero_or_one n with h | h
  · rw [if_pos h, if_neg (by omega)]
  · rw [if_neg (by omega), if_pos (by omega)]; simp

theorem wsum_append (l r : List UInt8) : ∀ e, wsum e (l ++ r) = wsum e l + wsum (par e l.length) r := by
  induction l with
  | nil => intro e; simp [wsum, par]
  | cons b l ih => intro e; simp only [List.cons_append, wsum, ih, List.length_cons, par_succ]; omega

theorem wsum_le (l : List UInt8) : ∀ e, wsum e l ≤ 65280 * l.length := by
  induction l with
  | nil => intro e; simp [wsum]
  | cons b l ih =>
    intro e
    have h := ih (!e)
    have hb : b.toNat < 256 := b.toNat_lt
    simp only [wsum, List.length_cons]
    split <;> omega

theorem wsum_snoc (l : List UInt8) (b : UInt8) : wsum true (l ++ [b]) = wsum true l + (if l.length % 2 = 0 then b.toNat * 256 else b.toNat) := by
  rw [wsum_append]
  simp only [wsum, par]
  split <;> simp <;> omega

/-- What is left of a sum when what goes beyond 16 bits is added to the lowest 16, until there is no more. -/
def fold16 (n : Nat) : Nat := if n = 0 then 0 else (n - 1) % 65535 + 1
theorem fold16_le (n : Nat) : fold16 n ≤ 65535 := by unfold fold16; split <;> omega
theorem fold16_small {n : Nat} (h : n ≤ 65535) : fold16 n = n := by unfold fold16; split <;> omega
theorem fold16_step {n : Nat} (h : 65535 < n) : fold16 (n % 65536 + n / 65536) = fold16 n := by unfold fold16; split <;> split <;> omega
theorem fold16_add {n w : Nat} (h : w ≤ 65280) : fold16 (n + w) = if 65535 < fold16 n + w then fold16 n + w - 65535 else fold16 n + w := by
  unfold fold16; split <;> split <;> split <;> omega

/-- The checksum of bytes. -/
def sum16 (l : List UInt8) : Nat := 65535 - fold16 (wsum true l)

theorem xor_mask16 {x : Nat} (h : x ≤ 65535) : x ^^^ 65535 = 65535 - x := by
  have e : 65535 - x = 2 ^ 16 - (x + 1) := by omega
  rw [e, show (65535 : Nat) = 2 ^ 16 - 1 by decide]
  apply Nat.eq_of_testBit_eq
  intro i
  rw [Nat.testBit_xor, Nat.testBit_two_pow_sub_one, Nat.testBit_two_pow_sub_succ (by omega)]
  by_cases hi : i < 16
  · simp [hi]
  · have : x.testBit i = false := Nat.testBit_lt_two_pow (Nat.lt_of_lt_of_le (show x < 2 ^ 16 by omega) (Nat.pow_le_pow_right (by decide) (by omega)))
    simp [hi, this]

theorem ofInt_i64 (a : Nat) (ha : a < 9223372036854775808) : (BitVec.ofInt 64 (a : Int)).toNat = a := by
  rw [BitVec.ofInt_natCast, BitVec.toNat_ofNat]; exact Nat.mod_eq_of_lt (by omega)
theorem i64_mask16 (a : Nat) (ha : a < 9223372036854775808) : bits .and .i64 (a : Int) 65535 = ((a % 65536 : Nat) : Int) := by
  show IntKind.i64.wrap ((BitVec.ofInt 64 (a : Int) &&& BitVec.ofInt 64 ((65535 : Nat) : Int)).toNat : Int) = _
  rw [BitVec.toNat_and, ofInt_i64 a ha, ofInt_i64 65535 (by omega), show (65535 : Nat) = 2 ^ 16 - 1 by decide, Nat.and_two_pow_sub_one_eq_mod, IntKind.wrap_i64]
  omega
theorem i64_xor16 (a : Nat) (ha : a ≤ 65535) : bits .xor .i64 (a : Int) 65535 = ((65535 - a : Nat) : Int) := by
  show IntKind.i64.wrap ((BitVec.ofInt 64 (a : Int) ^^^ BitVec.ofInt 64 ((65535 : Nat) : Int)).toNat : Int) = _
  rw [BitVec.toNat_xor, ofInt_i64 a (by omega), ofInt_i64 65535 (by omega), xor_mask16 ha, IntKind.wrap_i64]
  omega

/-- The bytes of several texts, one behind the other. -/
def joined (ss : List ByteArray) : List UInt8 := (ss.map fun s => s.data.toList).flatten
theorem joined_take (ss : List ByteArray) (k : Nat) (h : k < ss.length) : joined (ss.take (k + 1)) = joined (ss.take k) ++ (ss.getD k ByteArray.empty).data.toList := by
  have e : ss.getD k ByteArray.empty = ss[k] := by simp [h]
  rw [List.take_succ_eq_append_getElem h, e]; unfold joined; rw [List.map_append, List.flatten_append]; simp
theorem joined_take_le (ss : List ByteArray) (k : Nat) : (joined (ss.take k)).length ≤ (joined ss).length := by
  have : joined ss = joined (ss.take k) ++ joined (ss.drop k) := by rw [joined, joined, joined, ← List.flatten_append, ← List.map_append, List.take_append_drop]
  rw [this]; simp
theorem bytes_take (s : ByteArray) (k : Nat) (h : k < s.size) : s.data.toList.take (k + 1) = s.data.toList.take k ++ [s[k]] := by
  rw [List.take_succ_eq_append_getElem (by simpa using h)]; rfl

/-- By how many bits the byte behind n others is shifted. -/
def shiftAt (n : Nat) : Nat := if n % 2 = 0 then 8 else 0
theorem shiftAt_even {n : Nat} (h : n % 2 = 0) : shiftAt n = 8 := if_pos h
theorem shiftAt_odd {n : Nat} (h : ¬ n % 2 = 0) : shiftAt n = 0 := if_neg h

end Go.Proofs.YtnhlachoimlhhaaGreatDoor.M
