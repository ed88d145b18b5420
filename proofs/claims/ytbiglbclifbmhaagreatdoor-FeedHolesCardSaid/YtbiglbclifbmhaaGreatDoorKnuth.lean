/-
  Plain mathematics: a quotient of two words by one, digit by digit (a digit: 32 bits), as a guess that is lowered at most twice.
-/
namespace Go.Proofs.YtbiglbclifbmhaaGreatDoor.M

/-- What holds of a guess q and its rest r for the quotient's digit: u is the upper part, d the next digit, the divisor is vh, vl by digits. -/
structure Guess (u vh vl d q r : Nat) : Prop where
  rest : q * vh + r = u
  atLeast : (u * 4294967296 + d) / (vh * 4294967296 + vl) ≤ q
  atMost : q ≤ 4294967297

structure Normal (u vh vl d : Nat) : Prop where
  low : 2147483648 ≤ vh
  high : vh < 4294967296
  vl_lt : vl < 4294967296
  d_lt : d < 4294967296
  u_lt : u < vh * 4294967296 + vl

theorem digit_lt {u vh vl d : Nat} (n : Normal u vh vl d) : (u * 4294967296 + d) / (vh * 4294967296 + vl) < 4294967296 := by
  obtain ⟨h1, h2, h3, h4, h5⟩ := n
  rw [Nat.div_lt_iff_lt_mul (by omega)]
  omega

theorem times (q vh vl : Nat) : q * (vh * 4294967296 + vl) = q * vh * 4294967296 + q * vl := by
  rw [Nat.mul_add, Nat.mul_assoc]

theorem guess_start {u vh vl d : Nat} (n : Normal u vh vl d) : Guess u vh vl d (u / vh) (u % vh) := by
  obtain ⟨h1, h2, h3, h4, h5⟩ := n
  refine ⟨by have := Nat.div_add_mod u vh; rw [Nat.mul_comm] at this; exact this, ?_, ?_⟩
  · rw [← Nat.lt_add_one_iff, Nat.div_lt_iff_lt_mul (by omega), times]
    have h := Nat.div_add_mod u vh
    have hm := Nat.mod_lt u (show 0 < vh by omega)
    rw [Nat.mul_comm] at h
    have e : (u / vh + 1) * vh = u / vh * vh + vh := by rw [Nat.add_mul, Nat.one_mul]
    rw [e]
    generalize u / vh * vh = x at *
    generalize u % vh = y at *
    generalize (u / vh + 1) * vl = z
    omega
  · rw [← Nat.lt_add_one_iff, Nat.div_lt_iff_lt_mul (by omega)]
    omega

theorem guess_over {u vh vl d q r : Nat} (n : Normal u vh vl d) (g : Guess u vh vl d q r) (h : 4294967296 ≤ q ∨ 4294967296 * r + d < q * vl) :
    (u * 4294967296 + d) / (vh * 4294967296 + vl) < q := by
  rcases h with h | h
  · exact Nat.lt_of_lt_of_le (digit_lt n) h
  · obtain ⟨h1, h2, h3, h4, h5⟩ := n
    obtain ⟨g1, g2, g3⟩ := g
    rw [Nat.div_lt_iff_lt_mul (by omega), times]
    generalize q * vh = x at *
    generalize q * vl = y at *
    omega

theorem guess_step {u vh vl d q r : Nat} (n : Normal u vh vl d) (g : Guess u vh vl d q r) (h : 4294967296 ≤ q ∨ 4294967296 * r + d < q * vl) :
    1 ≤ q ∧ q - 1 ≤ 4294967296 ∧ Guess u vh vl d (q - 1) (r + vh) := by
  have ho := guess_over n g h
  obtain ⟨g1, g2, g3⟩ := g
  have h0 := Nat.lt_of_le_of_lt (Nat.zero_le _) ho
  refine ⟨h0, by omega, ?_, Nat.le_sub_one_of_lt ho, by omega⟩
  obtain ⟨p, rfl⟩ : ∃ p, q = p + 1 := ⟨q - 1, by omega⟩
  rw [Nat.add_mul, Nat.one_mul] at g1
  rw [Nat.add_sub_cancel]; omega

theorem guess_end {u vh vl d q r : Nat} (n : Normal u vh vl d) (g : Guess u vh vl d q r) (h : q * vl ≤ 4294967296 * r + d) :
    q = (u * 4294967296 + d) / (vh * 4294967296 + vl) := by
  apply Nat.le_antisymm _ g.atLeast
  obtain ⟨h1, h2, h3, h4, h5⟩ := n
  obtain ⟨g1, g2, g3⟩ := g
  rw [Nat.le_div_iff_mul_le (by omega), times]
  generalize q * vh = x at *
  generalize q * vl = y at *
  omega

theorem guess_break {u vh vl d q r : Nat} (n : Normal u vh vl d) (g : Guess u vh vl d q r) (hq : q ≤ 4294967296) (h : 4294967296 ≤ r) :
    q = (u * 4294967296 + d) / (vh * 4294967296 + vl) := by
  apply guess_end n g
  have := Nat.mul_le_mul hq (show vl ≤ 4294967296 by have := n.vl_lt; omega)
  omega

/-- The rest behind a digit, reckoned with words that wrap. -/
theorem rest_wraps {u v d : Nat} (hv : 0 < v) (hv2 : v < 18446744073709551616) :
    ((u * 4294967296 + d : Int) - ((u * 4294967296 + d) / v : Nat) * (v : Int)) % 18446744073709551616 = ((u * 4294967296 + d) % v : Nat) := by
  have h := Nat.div_add_mod (u * 4294967296 + d) v
  have hm := Nat.mod_lt (u * 4294967296 + d) hv
  rw [Nat.mul_comm] at h
  generalize (u * 4294967296 + d) / v = q at *
  generalize (u * 4294967296 + d) % v = r at *
  have e : (q : Int) * (v : Int) = ((q * v : Nat) : Int) := by simp
  rw [e]
  generalize q * v = x at *
  omega

theorem two_digits_of {u d1 d0 v q r : Nat} (hv : 0 < v) (h : v * q + r = u * 4294967296 + d1) :
    q * 4294967296 + (r * 4294967296 + d0) / v = (u * 18446744073709551616 + d1 * 4294967296 + d0) / v := by
  have e : u * 18446744073709551616 + d1 * 4294967296 + d0 = (r * 4294967296 + d0) + v * (q * 4294967296) := by
    have : v * (q * 4294967296) = v * q * 4294967296 := by rw [Nat.mul_assoc]
    rw [this]; omega
  rw [e, Nat.add_mul_div_left _ _ hv, Nat.add_comm]
/-- Two digits are the quotient. -/
theorem two_digits (u d1 d0 v : Nat) (hv : 0 < v) :
    (u * 4294967296 + d1) / v * 4294967296 + ((u * 4294967296 + d1) % v * 4294967296 + d0) / v = (u * 18446744073709551616 + d1 * 4294967296 + d0) / v :=
  two_digits_of hv (Nat.div_add_mod _ v)

/-- The shift that makes the divisor's highest bit one takes nothing from the quotient. -/
theorem shifted (x v s : Nat) : x * 2 ^ s / (v * 2 ^ s) = x / v :=
  Nat.mul_div_mul_right _ _ (Nat.two_pow_pos s)

end Go.Proofs.YtbiglbclifbmhaaGreatDoor.M
