/-
  Plain mathematics on natural numbers: products of two words in halves, roots, quotients digit by digit. Nothing of the program is named here.
  Laws on words of 64 bits that the walks of this seat lean on: masks, products below 2^64. Nothing of the program is named here.
  Small laws on worlds of which nothing that was there has turned.
  Plain mathematics: a quotient of two words by one, digit by digit (a digit: 32 bits), as a guess that is lowered at most twice.
  Places within a number: what 'x % m', and '(x % m + m) % m', are. Nothing of the program is named here.
-/
import Derived.WalkKit
import Derived.Lib.ItoaNum
import Derived.Lib.Hide
import Derived.Deep.Draws
namespace Go.Proofs.YtnhlachoimlhhaaGreatDoor.M

/-! ### Words -/
abbrev W : Nat := 18446744073709551616
abbrev H : Nat := 4294967296

theorem mul_le_of_lt {a b m n : Nat} (ha : a ≤ m) (hb : b ≤ n) : a * b ≤ m * n := Nat.mul_le_mul ha hb

/-- A product by halves. -/
theorem parts (a b : Nat) : a * b = (a / 4294967296) * (b / 4294967296) * 18446744073709551616 + ((a / 4294967296) * (b % 4294967296) + (a % 4294967296) * (b / 4294967296)) * 4294967296 + (a % 4294967296) * (b % 4294967296) := by
  have ha := Nat.div_add_mod a 4294967296
  have hb := Nat.div_add_mod b 4294967296
  generalize a / 4294967296 = ah at *
  generalize a % 4294967296 = al at *
  generalize b / 4294967296 = bh at *
  generalize b % 4294967296 = bl at *
  subst ha hb
  grind

theorem wide_hi (a b : Nat) :
    (a / 4294967296) * (b / 4294967296) + ((a / 4294967296) * (b % 4294967296) + (a % 4294967296) * (b % 4294967296) / 4294967296) / 4294967296
      + ((a % 4294967296) * (b / 4294967296) + ((a / 4294967296) * (b % 4294967296) + (a % 4294967296) * (b % 4294967296) / 4294967296) % 4294967296) / 4294967296
      = a * b / 18446744073709551616 := by
  have h := parts a b
  generalize (a / 4294967296) * (b / 4294967296) = t at *
  generalize (a / 4294967296) * (b % 4294967296) = y at *
  generalize (a % 4294967296) * (b / 4294967296) = z at *
  generalize (a % 4294967296) * (b % 4294967296) = x at *
  omega

theorem wide_lo (a b : Nat) :
    ((a % 4294967296) * (b / 4294967296) + ((a / 4294967296) * (b % 4294967296) + (a % 4294967296) * (b % 4294967296) / 4294967296) % 4294967296) % 4294967296 * 4294967296
      + (a % 4294967296) * (b % 4294967296) % 4294967296
      = a * b % 18446744073709551616 := by
  have h := parts a b
  generalize (a / 4294967296) * (b / 4294967296) = t at *
  generalize (a / 4294967296) * (b % 4294967296) = y at *
  generalize (a % 4294967296) * (b / 4294967296) = z at *
  generalize (a % 4294967296) * (b % 4294967296) = x at *
  omega

/-- The pair a, b above the pair c, d. -/
def over (a b c d : Nat) : Bool := decide (c * 18446744073709551616 + d < a * 18446744073709551616 + b)

theorem over_split (x y : Nat) : over (x / 18446744073709551616) (x % 18446744073709551616) (y / 18446744073709551616) (y % 18446744073709551616) = decide (y < x) := by
  unfold over
  have hx := Nat.div_add_mod x 18446744073709551616
  have hy := Nat.div_add_mod y 18446744073709551616
  rw [decide_eq_decide]; omega

/-! ### Sums that stop at the greatest word -/
def addT (a b : Nat) : Nat := if a + b < 18446744073709551616 then a + b else 18446744073709551615
def mulT (a b : Nat) : Nat := if a * b < 18446744073709551616 then a * b else 18446744073709551615
def mulDivT (a b c : Nat) : Nat := if c = 0 then 18446744073709551615 else if a * b / c < 18446744073709551616 then a * b / c else 18446744073709551615

/-! ### Roots -/
def isqAux : Nat → Nat → Nat → Nat
  | 0, r, _ => r
  | k + 1, r, n => if (r + 2 ^ k) * (r + 2 ^ k) ≤ n then isqAux k (r + 2 ^ k) n else isqAux k r n
/-- The greatest number whose square is at most n (n below 2^128). -/
def isq (n : Nat) : Nat := isqAux 64 0 n

theorem isqAux_spec (k : Nat) : ∀ r n, r * r ≤ n → n < (r + 2 ^ k) * (r + 2 ^ k) → isqAux k r n * isqAux k r n ≤ n ∧ n < (isqAux k r n + 1) * (isqAux k r n + 1) := by
  induction k with
  | zero => intro r n h1 h2; exact ⟨h1, by simpa [isqAux] using h2⟩
  | succ k ih =>
    intro r n h1 h2
    unfold isqAux
    have e : r + 2 ^ (k + 1) = (r + 2 ^ k) + 2 ^ k := by rw [Nat.pow_succ]; omega
    rw [e] at h2
    split
    · rename_i h; exact ih _ _ h h2
    · rename_i h; exact ih _ _ h1 (by omega)

theorem isq_spec (n : Nat) (h : n < 18446744073709551616 * 18446744073709551616) : isq n * isq n ≤ n ∧ n < (isq n + 1) * (isq n + 1) :=
  isqAux_spec 64 0 n (Nat.zero_le _) (by simpa using h)

theorem root_uniq {n r s : Nat} (h1 : r * r ≤ n) (h2 : n < (r + 1) * (r + 1)) (h3 : s * s ≤ n) (h4 : n < (s + 1) * (s + 1)) : r = s := by
  apply Nat.le_antisymm
  · apply Nat.le_of_not_lt; intro h; have := Nat.mul_le_mul (show s + 1 ≤ r from h) (show s + 1 ≤ r from h); omega
  · apply Nat.le_of_not_lt; intro h; have := Nat.mul_le_mul (show r + 1 ≤ s from h) (show r + 1 ≤ s from h); omega

theorem isq_eq {n r : Nat} (h : n < 18446744073709551616 * 18446744073709551616) (h1 : r * r ≤ n) (h2 : n < (r + 1) * (r + 1)) : isq n = r :=
  root_uniq (isq_spec n h).1 (isq_spec n h).2 h1 h2

theorem isq_lt (n : Nat) (h : n < 18446744073709551616 * 18446744073709551616) : isq n < 18446744073709551616 := by
  apply Nat.lt_of_not_le; intro hc
  have := Nat.mul_le_mul hc hc; have := (isq_spec n h).1; omega


/-- A product of two words as two words. -/
theorem halves (a b : Nat) (ha : a < 18446744073709551616) (hb : b < 18446744073709551616) :
    ∃ q r, a * b = q * 18446744073709551616 + r ∧ q < 18446744073709551616 ∧ r < 18446744073709551616 := by
  refine ⟨a * b / 18446744073709551616, a * b % 18446744073709551616, ?_, ?_, Nat.mod_lt _ (by decide)⟩
  · have := Nat.div_add_mod (a * b) 18446744073709551616; omega
  · rw [Nat.div_lt_iff_lt_mul (by decide)]
    have h := Nat.mul_le_mul (show a ≤ 18446744073709551615 by omega) (show b ≤ 18446744073709551615 by omega)
    omega

theorem half_hi {n q r : Nat} (h : n = q * 18446744073709551616 + r) (hr : r < 18446744073709551616) : n / 18446744073709551616 = q := by omega
theorem half_lo {n q r : Nat} (h : n = q * 18446744073709551616 + r) (hr : r < 18446744073709551616) : n % 18446744073709551616 = r := by omega

/-- What holds of a root that is found bit by bit, with k bits to go. -/
structure RootAt (n r k : Nat) : Prop where
  below : r * r ≤ n
  above : n < (r + 2 ^ k) * (r + 2 ^ k)
  even : r % 2 ^ k = 0
  small : r + 2 ^ k ≤ 2 ^ 64

theorem root_start (n k : Nat) (hk : k ≤ 64) (h : n < 2 ^ (2 * k)) : RootAt n 0 k := by
  refine ⟨Nat.zero_le _, ?_, Nat.zero_mod _, ?_⟩
  · rw [Nat.zero_add, ← Nat.pow_add]; rw [show k + k = 2 * k by omega]; exact h
  · rw [Nat.zero_add]; exact Nat.pow_le_pow_right (by decide) hk

theorem root_yes {n r k : Nat} (h : RootAt n r (k + 1)) (ht : (r + 2 ^ k) * (r + 2 ^ k) ≤ n) : RootAt n (r + 2 ^ k) k := by
  obtain ⟨h1, h2, h3, h4⟩ := h
  have e : 2 ^ (k + 1) = 2 ^ k + 2 ^ k := by rw [Nat.pow_succ]; omega
  have hm : r % 2 ^ k = 0 := Nat.mod_eq_zero_of_dvd (Nat.dvd_trans (Nat.pow_dvd_pow 2 (Nat.le_succ k)) (Nat.dvd_of_mod_eq_zero h3))
  refine ⟨ht, ?_, ?_, ?_⟩
  · rw [Nat.add_assoc, ← e]; exact h2
  · rw [Nat.add_mod_right]; exact hm
  · rw [Nat.add_assoc, ← e]; exact h4

theorem root_no {n r k : Nat} (h : RootAt n r (k + 1)) (ht : ¬ (r + 2 ^ k) * (r + 2 ^ k) ≤ n) : RootAt n r k := by
  obtain ⟨h1, h2, h3, h4⟩ := h
  have e : 2 ^ (k + 1) = 2 ^ k + 2 ^ k := by rw [Nat.pow_succ]; omega
  have hm : r % 2 ^ k = 0 := Nat.mod_eq_zero_of_dvd (Nat.dvd_trans (Nat.pow_dvd_pow 2 (Nat.le_succ k)) (Nat.dvd_of_mod_eq_zero h3))
  exact ⟨h1, by omega, hm, by omega⟩

theorem root_end {n r : Nat} (h : RootAt n r 0) (hn : n < 18446744073709551616 * 18446744073709551616) : isq n = r :=
  isq_eq hn h.below (by have := h.above; simpa using this)

theorem root_or {r k : Nat} (hr : r % 2 ^ (k + 1) = 0) : r ||| 2 ^ k = r + 2 ^ k := by
  obtain ⟨c, rfl⟩ := Nat.dvd_of_mod_eq_zero hr
  rw [Nat.pow_succ, Nat.mul_assoc, Nat.or_comm, Nat.add_comm]
  have h := Nat.two_pow_add_eq_or_of_lt (i := k + 1) (b := 2 ^ k) (Nat.pow_lt_pow_right (by decide) (Nat.lt_succ_self k)) c
  rw [Nat.pow_succ, Nat.mul_assoc] at h
  rw [Nat.add_comm, h, Nat.or_comm]


/-! ### A quotient bit by bit -/
/-- What holds with k bits to go: rest and quotient of the bits above. -/
structure DivAt (h l c k rest q : Nat) : Prop where
  rest_eq : rest = (h * 18446744073709551616 + l) / 2 ^ k % c
  quot_eq : q = (h * 18446744073709551616 + l) / 2 ^ k / c

theorem div_start {h l c : Nat} (hc : h < c) (hl : l < 18446744073709551616) : DivAt h l c 64 h 0 := by
  have e : (h * 18446744073709551616 + l) / 2 ^ 64 = h := by omega
  exact ⟨by rw [e, Nat.mod_eq_of_lt hc], by rw [e, Nat.div_eq_of_lt hc]⟩

theorem next_bit (h l k : Nat) (hk : k < 64) : (h * 18446744073709551616 + l) / 2 ^ k = 2 * ((h * 18446744073709551616 + l) / 2 ^ (k + 1)) + l / 2 ^ k % 2 := by
  have e : (2 : Nat) ^ 64 = 2 ^ k * 2 ^ (64 - k) := by rw [← Nat.pow_add]; congr 1; omega
  have e2 : (2 : Nat) ^ (64 - k) = 2 * 2 ^ (63 - k) := by rw [show 64 - k = (63 - k) + 1 by omega, Nat.pow_succ, Nat.mul_comm]
  have hp := Nat.two_pow_pos k
  have d : (h * 18446744073709551616 + l) / 2 ^ k = l / 2 ^ k + 2 * (2 ^ (63 - k) * h) := by
    have : h * 18446744073709551616 + l = l + 2 ^ k * (2 * (2 ^ (63 - k) * h)) := by
      have e3 : 2 ^ k * (2 * (2 ^ (63 - k) * h)) = 2 ^ k * (2 * 2 ^ (63 - k)) * h := by simp only [Nat.mul_assoc]
      rw [e3, ← e2, ← e]; omega
    rw [this, Nat.add_mul_div_left _ _ hp]
  rw [Nat.pow_succ, ← Nat.div_div_eq_div_mul, d]
  generalize l / 2 ^ k = x
  generalize 2 ^ (63 - k) * h = y
  omega

theorem div_step {h l c k rest q : Nat} (hk : k < 64) (d : DivAt h l c (k + 1) rest q) (hc : h < c) (hl : l < 18446744073709551616) (hc2 : c < 18446744073709551616) :
    rest < c ∧ q < 9223372036854775808
    ∧ (c ≤ 2 * rest + l / 2 ^ k % 2 → DivAt h l c k (2 * rest + l / 2 ^ k % 2 - c) (2 * q + 1))
    ∧ (2 * rest + l / 2 ^ k % 2 < c → DivAt h l c k (2 * rest + l / 2 ^ k % 2) (2 * q)) := by
  obtain ⟨h1, h2⟩ := d
  have hb := next_bit h l k hk
  have h3 := Nat.div_add_mod ((h * 18446744073709551616 + l) / 2 ^ (k + 1)) c
  rw [← h1, ← h2] at h3
  have hcp : 0 < c := by omega
  have hr : rest < c := by rw [h1]; exact Nat.mod_lt _ hcp
  have hx : l / 2 ^ k % 2 < 2 := Nat.mod_lt _ (by decide)
  have hq : q < 9223372036854775808 := by
    rw [h2, Nat.div_lt_iff_lt_mul hcp]
    rw [Nat.pow_succ, ← Nat.div_div_eq_div_mul]
    have h4 := Nat.div_le_self (h * 18446744073709551616 + l) (2 ^ k)
    generalize (h * 18446744073709551616 + l) / 2 ^ k = y at *
    omega
  refine ⟨hr, hq, ?_, ?_⟩
  · intro ht
    refine ⟨?_, ?_⟩
    · rw [hb, ← h3]
      generalize l / 2 ^ k % 2 = b at *
      rw [show 2 * (c * q + rest) + b = (2 * rest + b - c) + c * (2 * q + 1) by rw [Nat.mul_add, Nat.mul_add, Nat.mul_one, Nat.mul_left_comm]; omega, Nat.add_mul_mod_self_left, Nat.mod_eq_of_lt (by omega)]
    · rw [hb, ← h3]
      generalize l / 2 ^ k % 2 = b at *
      rw [show 2 * (c * q + rest) + b = (2 * rest + b - c) + c * (2 * q + 1) by rw [Nat.mul_add, Nat.mul_add, Nat.mul_one, Nat.mul_left_comm]; omega, Nat.add_mul_div_left _ _ hcp, Nat.div_eq_of_lt (by omega)]; omega
  · intro ht
    refine ⟨?_, ?_⟩
    · rw [hb, ← h3]
      generalize l / 2 ^ k % 2 = b at *
      rw [show 2 * (c * q + rest) + b = (2 * rest + b) + c * (2 * q) by rw [Nat.mul_add, Nat.mul_left_comm]; omega, Nat.add_mul_mod_self_left, Nat.mod_eq_of_lt (by omega)]
    · rw [hb, ← h3]
      generalize l / 2 ^ k % 2 = b at *
      rw [show 2 * (c * q + rest) + b = (2 * rest + b) + c * (2 * q) by rw [Nat.mul_add, Nat.mul_left_comm]; omega, Nat.add_mul_div_left _ _ hcp, Nat.div_eq_of_lt (by omega)]; omega

theorem div_end {h l c rest q : Nat} (d : DivAt h l c 0 rest q) : q = (h * 18446744073709551616 + l) / c := by
  have := d.quot_eq; rwa [Nat.pow_zero, Nat.div_one] at this

theorem quot_small {h l c : Nat} (hc : h < c) (hl : l < 18446744073709551616) : (h * 18446744073709551616 + l) / c < 18446744073709551616 := by
  rw [Nat.div_lt_iff_lt_mul (by omega)]
  have := Nat.mul_le_mul_right 18446744073709551616 (show h + 1 ≤ c from hc)
  omega
theorem quot_great {h l c : Nat} (h0 : 0 < c) (hc : c ≤ h) : ¬ (h * 18446744073709551616 + l) / c < 18446744073709551616 := by
  rw [Nat.div_lt_iff_lt_mul h0]
  have := Nat.mul_le_mul_right 18446744073709551616 hc
  omega

theorem mulDivT_zero (a b : Nat) : mulDivT a b 0 = 18446744073709551615 := rfl
theorem mulDivT_top {a b c h l : Nat} (hp : a * b = h * 18446744073709551616 + l) (h0 : 0 < c) (hc : c ≤ h) : mulDivT a b c = 18446744073709551615 := by
  unfold mulDivT; rw [hp, if_neg (by omega), if_neg (quot_great h0 hc)]
theorem mulDivT_quot {a b c h l : Nat} (hp : a * b = h * 18446744073709551616 + l) (hc : h < c) (hl : l < 18446744073709551616) : mulDivT a b c = (h * 18446744073709551616 + l) / c := by
  unfold mulDivT; rw [hp, if_neg (by omega), if_pos (quot_small hc hl)]

end Go.Proofs.YtnhlachoimlhhaaGreatDoor.M

namespace Go.Proofs.YtnhlachoimlhhaaGreatDoor.M
open Go

theorem u64_mask (k : Nat) (hk : k ≤ 64) (m n : Int) (hm : m = ((2 ^ k - 1 : Nat) : Int)) : bits .and .u64 n m = n % ((2 ^ k : Nat) : Int) := by
  subst hm
  have hp : 2 ^ k ≤ 2 ^ 64 := Nat.pow_le_pow_right (by decide) hk
  have h0 : 0 < 2 ^ k := Nat.two_pow_pos k
  have h1 : (BitVec.ofInt 64 ((2 ^ k - 1 : Nat) : Int)).toNat = 2 ^ k - 1 := by
    rw [BitVec.ofInt_natCast, BitVec.toNat_ofNat]; exact Nat.mod_eq_of_lt (by omega)
  have key : (BitVec.ofInt 64 n &&& BitVec.ofInt 64 ((2 ^ k - 1 : Nat) : Int)).toNat = (n % ((2 ^ 64 : Nat) : Int)).toNat % 2 ^ k := by
    rw [BitVec.toNat_and, BitVec.toNat_ofInt, h1, Nat.and_two_pow_sub_one_eq_mod]
  show IntKind.u64.wrap ((BitVec.ofInt 64 n &&& BitVec.ofInt 64 ((2 ^ k - 1 : Nat) : Int)).toNat : Nat) = _
  rw [key, IntKind.wrap_u64]
  have hd : ((2 ^ k : Nat) : Int) ∣ ((2 ^ 64 : Nat) : Int) := Int.natCast_dvd_natCast.2 (Nat.pow_dvd_pow 2 hk)
  have hn : 0 ≤ n % ((2 ^ 64 : Nat) : Int) := Int.emod_nonneg _ (by decide)
  have e : (((n % ((2 ^ 64 : Nat) : Int)).toNat % 2 ^ k : Nat) : Int) = n % ((2 ^ k : Nat) : Int) := by
    rw [Int.natCast_emod, Int.toNat_of_nonneg hn, Int.emod_emod_of_dvd _ hd]
  rw [e]
  have h2 : 0 ≤ n % ((2 ^ k : Nat) : Int) := Int.emod_nonneg _ (by omega)
  have h3 : n % ((2 ^ k : Nat) : Int) < ((2 ^ k : Nat) : Int) := Int.emod_lt_of_pos _ (by omega)
  exact Int.emod_eq_of_lt h2 (by omega)

theorem and32 (n : Int) : bits .and .u64 n 4294967295 = n % 4294967296 := u64_mask 32 (by decide) _ n (by decide)
theorem and48 (n : Int) : bits .and .u64 n 281474976710655 = n % 281474976710656 := u64_mask 48 (by decide) _ n (by decide)
theorem and24 (n : Int) : bits .and .u64 n 16777215 = n % 16777216 := u64_mask 24 (by decide) _ n (by decide)

theorem prod_in {x y : Int} (hx : 0 ≤ x) (hx2 : x ≤ 4294967295) (hy : 0 ≤ y) (hy2 : y ≤ 4294967295) : 0 ≤ x * y ∧ x * y ≤ 18446744065119617025 :=
  ⟨Int.mul_nonneg hx hy, Int.mul_le_mul hx2 hy2 hy (by omega)⟩

theorem prods (a b : Nat) (ha : a < 18446744073709551616) (hb : b < 18446744073709551616) :
    0 ≤ (a : Int) / 4294967296 * ((b : Int) / 4294967296) ∧ (a : Int) / 4294967296 * ((b : Int) / 4294967296) ≤ 18446744065119617025
    ∧ 0 ≤ (a : Int) / 4294967296 * ((b : Int) % 4294967296) ∧ (a : Int) / 4294967296 * ((b : Int) % 4294967296) ≤ 18446744065119617025
    ∧ 0 ≤ (a : Int) % 4294967296 * ((b : Int) / 4294967296) ∧ (a : Int) % 4294967296 * ((b : Int) / 4294967296) ≤ 18446744065119617025
    ∧ 0 ≤ (a : Int) % 4294967296 * ((b : Int) % 4294967296) ∧ (a : Int) % 4294967296 * ((b : Int) % 4294967296) ≤ 18446744065119617025 := by
  have h1 := prod_in (x := (a : Int) / 4294967296) (y := (b : Int) / 4294967296) (by omega) (by omega) (by omega) (by omega)
  have h2 := prod_in (x := (a : Int) / 4294967296) (y := (b : Int) % 4294967296) (by omega) (by omega) (by omega) (by omega)
  have h3 := prod_in (x := (a : Int) % 4294967296) (y := (b : Int) / 4294967296) (by omega) (by omega) (by omega) (by omega)
  have h4 := prod_in (x := (a : Int) % 4294967296) (y := (b : Int) % 4294967296) (by omega) (by omega) (by omega) (by omega)
  exact ⟨h1.1, h1.2, h2.1, h2.2, h3.1, h3.2, h4.1, h4.2⟩

theorem c32 : ((4294967296 : Nat) : Int) = 4294967296 := rfl
theorem c64 : ((18446744073709551616 : Nat) : Int) = 18446744073709551616 := rfl
theorem wide_hiI (a b : Nat) :
    (a : Int) / 4294967296 * ((b : Int) / 4294967296) + ((a : Int) / 4294967296 * ((b : Int) % 4294967296) + (a : Int) % 4294967296 * ((b : Int) % 4294967296) / 4294967296) / 4294967296
      + ((a : Int) % 4294967296 * ((b : Int) / 4294967296) + ((a : Int) / 4294967296 * ((b : Int) % 4294967296) + (a : Int) % 4294967296 * ((b : Int) % 4294967296) / 4294967296) % 4294967296) / 4294967296
      = ((a * b / 18446744073709551616 : Nat) : Int) := by
  rw [← wide_hi]; simp only [Int.natCast_add, Int.natCast_mul, Int.natCast_ediv, Int.natCast_emod, c32]
theorem wide_loI (a b : Nat) :
    ((a : Int) % 4294967296 * ((b : Int) / 4294967296) + ((a : Int) / 4294967296 * ((b : Int) % 4294967296) + (a : Int) % 4294967296 * ((b : Int) % 4294967296) / 4294967296) % 4294967296) % 4294967296 * 4294967296
      + (a : Int) % 4294967296 * ((b : Int) % 4294967296) % 4294967296
      = ((a * b % 18446744073709551616 : Nat) : Int) := by
  rw [← wide_lo]; simp only [Int.natCast_add, Int.natCast_mul, Int.natCast_ediv, Int.natCast_emod, c32]

theorem ret_int {k : IntKind} {a b : Int} (h : a = b) : Ending.returned (.int k a) = .returned (.int k b) := by rw [h]
theorem ret_bool {a b : Bool} (h : a = b) : Ending.returned (.bool a) = .returned (.bool b) := by rw [h]
theorem ret_ints {k l : IntKind} {a b c d : Int} (h : a = b) (g : c = d) : Ending.returned (.tuple #[.int k a, .int l c]) = .returned (.tuple #[.int k b, .int l d]) := by rw [h, g]

theorem bitLen_spec (x : Nat) (h : x < 18446744073709551616) : x < 2 ^ Lib.bitLen x ∧ Lib.bitLen x ≤ 64 ∧ (x ≠ 0 → 1 ≤ Lib.bitLen x ∧ 2 ^ (Lib.bitLen x - 1) ≤ x) := by
  have hl : Lib.bitLen x ≤ 64 := Lib.bitLen_le x 64 (Nat.le_refl _) h
  by_cases h0 : x = 0
  · subst h0; exact ⟨by decide, hl, fun h => absurd rfl h⟩
  · obtain ⟨a, b, c⟩ := Lib.bitLenAux_bounds 64 x h h0
    exact ⟨c, hl, fun _ => ⟨a, b⟩⟩


theorem bit_wrap (k : Nat) (hk : k < 64) : IntKind.u64.wrap (2 ^ k : Int) = ((2 ^ k : Nat) : Int) := by
  have h := Nat.pow_lt_pow_right (a := 2) (by decide) hk
  have e : (2 ^ k : Int) = ((2 ^ k : Nat) : Int) := by simp
  rw [IntKind.wrap_u64, e]
  generalize 2 ^ k = p at *
  exact Int.emod_eq_of_lt (by omega) (by omega)
theorem or_bit {r k : Nat} (hk : k < 64) (hr : r % 2 ^ (k + 1) = 0) (hs : r + 2 ^ (k + 1) ≤ 2 ^ 64) :
    bits .or .u64 (r : Int) (IntKind.u64.wrap (2 ^ k : Int)) = ((r + 2 ^ k : Nat) : Int) := by
  have h := Nat.pow_lt_pow_right (a := 2) (by decide) hk
  have h2 : 0 < 2 ^ (k + 1) := Nat.two_pow_pos _
  rw [bit_wrap k hk, bits_or_u64_nat r (2 ^ k) (by omega) (by omega), root_or hr]

/-- How many bits a number of two words takes. -/
def plen (h l : Nat) : Nat := if h = 0 then Lib.bitLen l else 64 + Lib.bitLen h
theorem plen_spec (h l : Nat) (hh : h < 18446744073709551616) (hl : l < 18446744073709551616) : plen h l ≤ 128 ∧ h * 18446744073709551616 + l < 2 ^ plen h l := by
  obtain ⟨a1, a2, _⟩ := bitLen_spec h hh
  obtain ⟨b1, b2, _⟩ := bitLen_spec l hl
  unfold plen; split
  · rename_i h0; subst h0; exact ⟨by omega, by omega⟩
  · refine ⟨by omega, ?_⟩
    rw [Nat.pow_add]
    have := Nat.mul_le_mul_left (2 ^ 64) (Nat.succ_le_of_lt a1)
    have e : 2 ^ 64 * Nat.succ h = h * 18446744073709551616 + 18446744073709551616 := by omega
    omega

/-! ### A pair of words, shifted -/
theorem split_pow (s : Nat) (hs : s ≤ 64) : (2 : Nat) ^ (64 - s) * 2 ^ s = 18446744073709551616 := by rw [← Nat.pow_add, show 64 - s + s = 64 by omega]
theorem high_lt (l s : Nat) (hl : l < 18446744073709551616) (hs : s ≤ 64) : l / 2 ^ (64 - s) < 2 ^ s := by
  rw [Nat.div_lt_iff_lt_mul (Nat.two_pow_pos _), Nat.mul_comm, split_pow s hs]; exact hl
theorem shift_low (l s : Nat) (hs : s ≤ 64) : l * 2 ^ s % 18446744073709551616 = l % 2 ^ (64 - s) * 2 ^ s := by
  rw [← split_pow s hs, Nat.mul_mod_mul_right]
theorem shift_two (h l s : Nat) (hs : s ≤ 64) : (h * 2 ^ s + l / 2 ^ (64 - s)) * 18446744073709551616 + l * 2 ^ s % 18446744073709551616 = (h * 18446744073709551616 + l) * 2 ^ s := by
  have e := Nat.div_add_mod l (2 ^ (64 - s))
  rw [shift_low l s hs]
  generalize l / 2 ^ (64 - s) = x at *
  generalize hy : l % 2 ^ (64 - s) = y at *
  have h2 := split_pow s hs
  generalize 2 ^ (64 - s) = m at *
  generalize 2 ^ s = n at *
  subst e
  rw [← h2]; grind
theorem or_shift (h l s : Nat) (hs : s ≤ 63) (hl : l < 18446744073709551616) (hu : h * 2 ^ s + l / 2 ^ (64 - s) < 18446744073709551616) :
    bits .or .u64 (IntKind.u64.wrap ((h : Int) * 2 ^ s)) ((l : Int) / 2 ^ (64 - s)) = ((h * 2 ^ s + l / 2 ^ (64 - s) : Nat) : Int) := by
  have h1 := high_lt l s hl (by omega)
  have ej : h * 2 ^ s ||| l / 2 ^ (64 - s) = h * 2 ^ s + l / 2 ^ (64 - s) := nat_join s _ _ (Nat.mul_mod_left _ _) h1
  have hp := Nat.pow_lt_pow_right (a := 2) (by decide) (show s < 64 by omega)
  have ea : ((h : Int) * 2 ^ s) = ((h * 2 ^ s : Nat) : Int) := by simp
  have eb : ((l : Int) / 2 ^ (64 - s)) = ((l / 2 ^ (64 - s) : Nat) : Int) := by simp
  rw [ea, eb]
  clear ea eb
  generalize h * 2 ^ s = x at *
  generalize l / 2 ^ (64 - s) = z at *
  generalize 2 ^ s = m at *
  rw [IntWalk.u64_in _ (by omega), bits_or_u64_nat _ _ (by omega) (by omega), ej]
theorem shl_wrap (l s : Nat) : IntKind.u64.wrap ((l : Int) * 2 ^ s) = ((l * 2 ^ s % 18446744073709551616 : Nat) : Int) := by
  rw [show ((l : Int) * 2 ^ s) = ((l * 2 ^ s : Nat) : Int) by simp, IntKind.wrap_u64]; omega

theorem u64_quo (l y : Nat) (hl : l < 18446744073709551616) : IntKind.u64.wrap ((l : Int) / y) = ((l / y : Nat) : Int) := by
  have h := Nat.div_le_self l y
  rw [show ((l : Int) / y) = ((l / y : Nat) : Int) by simp]
  generalize l / y = x at *
  exact IntWalk.u64_in _ (by omega)
theorem u64_mul (a b : Nat) (h : a * b < 18446744073709551616) : IntKind.u64.wrap ((a : Int) * b) = ((a * b : Nat) : Int) := by
  rw [show ((a : Int) * b) = ((a * b : Nat) : Int) by simp]
  generalize a * b = x at *
  exact IntWalk.u64_in _ (by omega)

theorem tmod48 (n : Int) : ∃ m, n.tmod 281474976710656 = m ∧ -281474976710656 < m ∧ m < 281474976710656 ∧ (n - m) % 281474976710656 = 0 ∧ (0 ≤ n → 0 ≤ m) := by
  by_cases h : 0 ≤ n
  · exact ⟨n % 281474976710656, Int.tmod_eq_emod_of_nonneg h, by omega, by omega, by omega, fun _ => by omega⟩
  · obtain ⟨k, rfl⟩ : ∃ k, n = -k := ⟨-n, by omega⟩
    refine ⟨-(k % 281474976710656), ?_, by omega, by omega, by omega, fun h2 => absurd h2 h⟩
    rw [Int.neg_tmod, Int.tmod_eq_emod_of_nonneg (by omega)]
end Go.Proofs.YtnhlachoimlhhaaGreatDoor.M

namespace Go.Proofs.YtnhlachoimlhhaaGreatDoor
open Go.RowKit

/-- Nothing that was there has turned: two such steps, a new block, draws. -/
theorem bel_trans {a b c : World} (h : Below a.heap.size a b) (k : Below b.heap.size b c) : Below a.heap.size a c := h.trans (k.mono h.size)
theorem bel_alloc (w : World) (o : Obj) : Below w.heap.size w (w.alloc o) := (Below.refl _ _).alloc (Nat.le_refl _) o
theorem bel_drewN (w : World) (n : Nat) : Below w.heap.size w (w.drewN n) := ⟨rfl, rfl, rfl, Nat.le_refl _, fun _ _ => rfl⟩

end Go.Proofs.YtnhlachoimlhhaaGreatDoor

namespace Go.Proofs.YtnhlachoimlhhaaGreatDoor.M

/-- What holds of a guess q and its rest r for the quotient's digit: u is the upper part, d the next digit, the divisor is vh, vl by digits. -/
structure Guess (u vh vl d q r : Nat) : Prop where
  rest : q * vh + r = u
  atLeast : (u * 4294967296 + d) / (vh * 4294967296 + vl) ≤ q
  atMost : q ≤ 4294967297

structure Normal (u vh vl d : Nat) : Prop where
  low : 2147483648 ≤ vh
  high : vh < 4294967296
  vl_lt : vl < 4294967296
  d_lt : d < 4294967296
  u_lt : u < vh * 4294967296 + vl

theorem digit_lt {u vh vl d : Nat} (n : Normal u vh vl d) : (u * 4294967296 + d) / (vh * 4294967296 + vl) < 4294967296 := by
  obtain ⟨h1, h2, h3, h4, h5⟩ := n
  rw [Nat.div_lt_iff_lt_mul (by omega)]
  omega

theorem times (q vh vl : Nat) : q * (vh * 4294967296 + vl) = q * vh * 4294967296 + q * vl := by
  rw [Nat.mul_add, Nat.mul_assoc]

theorem guess_start {u vh vl d : Nat} (n : Normal u vh vl d) : Guess u vh vl d (u / vh) (u % vh) := by
  obtain ⟨h1, h2, h3, h4, h5⟩ := n
  refine ⟨by have := Nat.div_add_mod u vh; rw [Nat.mul_comm] at this; exact this, ?_, ?_⟩
  · rw [← Nat.lt_add_one_iff, Nat.div_lt_iff_lt_mul (by omega), times]
    have h := Nat.div_add_mod u vh
    have hm := Nat.mod_lt u (show 0 < vh by omega)
    rw [Nat.mul_comm] at h
    have e : (u / vh + 1) * vh = u / vh * vh + vh := by rw [Nat.add_mul, Nat.one_mul]
    rw [e]
    generalize u / vh * vh = x at *
    generalize u % vh = y at *
    generalize (u / vh + 1) * vl = z
    omega
  · rw [← Nat.lt_add_one_iff, Nat.div_lt_iff_lt_mul (by omega)]
    omega

theorem guess_over {u vh vl d q r : Nat} (n : Normal u vh vl d) (g : Guess u vh vl d q r) (h : 4294967296 ≤ q ∨ 4294967296 * r + d < q * vl) :
    (u * 4294967296 + d) / (vh * 4294967296 + vl) < q := by
  rcases h with h | h
  · exact Nat.lt_of_lt_of_le (digit_lt n) h
  · obtain ⟨h1, h2, h3, h4, h5⟩ := n
    obtain ⟨g1, g2, g3⟩ := g
    rw [Nat.div_lt_iff_lt_mul (by omega), times]
    generalize q * vh = x at *
    generalize q * vl = y at *
    omega

theorem guess_step {u vh vl d q r : Nat} (n : Normal u vh vl d) (g : Guess u vh vl d q r) (h : 4294967296 ≤ q ∨ 4294967296 * r + d < q * vl) :
    1 ≤ q ∧ q - 1 ≤ 4294967296 ∧ Guess u vh vl d (q - 1) (r + vh) := by
  have ho := guess_over n g h
  obtain ⟨g1, g2, g3⟩ := g
  have h0 := Nat.lt_of_le_of_lt (Nat.zero_le _) ho
  refine ⟨h0, by omega, ?_, Nat.le_sub_one_of_lt ho, by omega⟩
  obtain ⟨p, rfl⟩ : ∃ p, q = p + 1 := ⟨q - 1, by omega⟩
  rw [Nat.add_mul, Nat.one_mul] at g1
  rw [Nat.add_sub_cancel]; omega

theorem guess_end {u vh vl d q r : Nat} (n : Normal u vh vl d) (g : Guess u vh vl d q r) (h : q * vl ≤ 4294967296 * r + d) :
    q = (u * 4294967296 + d) / (vh * 4294967296 + vl) := by
  apply Nat.le_antisymm _ g.atLeast
  obtain ⟨h1, h2, h3, h4, h5⟩ := n
  obtain ⟨g1, g2, g3⟩ := g
  rw [Nat.le_div_iff_mul_le (by omega), times]
  generalize q * vh = x at *
  generalize q * vl = y at *
  omega

theorem guess_break {u vh vl d q r : Nat} (n : Normal u vh vl d) (g : Guess u vh vl d q r) (hq : q ≤ 4294967296) (h : 4294967296 ≤ r) :
    q = (u * 4294967296 + d) / (vh * 4294967296 + vl) := by
  apply guess_end n g
  have := Nat.mul_le_mul hq (show vl ≤ 4294967296 by have := n.vl_lt; omega)
  omega

/-- The rest behind a digit, reckoned with words that wrap. -/
theorem rest_wraps {u v d : Nat} (hv : 0 < v) (hv2 : v < 18446744073709551616) :
    ((u * 4294967296 + d : Int) - ((u * 4294967296 + d) / v : Nat) * (v : Int)) % 18446744073709551616 = ((u * 4294967296 + d) % v : Nat) := by
  have h := Nat.div_add_mod (u * 4294967296 + d) v
  have hm := Nat.mod_lt (u * 4294967296 + d) hv
  rw [Nat.mul_comm] at h
  generalize (u * 4294967296 + d) / v = q at *
  generalize (u * 4294967296 + d) % v = r at *
  have e : (q : Int) * (v : Int) = ((q * v : Nat) : Int) := by simp
  rw [e]
  generalize q * v = x at *
  omega

theorem two_digits_of {u d1 d0 v q r : Nat} (hv : 0 < v) (h : v * q + r = u * 4294967296 + d1) :
    q * 4294967296 + (r * 4294967296 + d0) / v = (u * 18446744073709551616 + d1 * 4294967296 + d0) / v := by
  have e : u * 18446744073709551616 + d1 * 4294967296 + d0 = (r * 4294967296 + d0) + v * (q * 4294967296) := by
    have : v * (q * 4294967296) = v * q * 4294967296 := by rw [Nat.mul_assoc]
    rw [this]; omega
  rw [e, Nat.add_mul_div_left _ _ hv, Nat.add_comm]
/-- Two digits are the quotient. -/
theorem two_digits (u d1 d0 v : Nat) (hv : 0 < v) :
    (u * 4294967296 + d1) / v * 4294967296 + ((u * 4294967296 + d1) % v * 4294967296 + d0) / v = (u * 18446744073709551616 + d1 * 4294967296 + d0) / v :=
  two_digits_of hv (Nat.div_add_mod _ v)

/-- The shift that makes the divisor's highest bit one takes nothing from the quotient. -/
theorem shifted (x v s : Nat) : x * 2 ^ s / (v * 2 ^ s) = x / v :=
  Nat.mul_div_mul_right _ _ (Nat.two_pow_pos s)

end Go.Proofs.YtnhlachoimlhhaaGreatDoor.M

namespace Go.Proofs.YtnhlachoimlhhaaGreatDoor
theorem mod_at (x m : Int) (hm : 0 < m) : ∃ a, x.tmod m = a ∧ -m < a ∧ a < m ∧ ∃ j : Nat, (a + m).tmod m = (j : Int) ∧ (j : Int) < m := by
  refine ⟨x.tmod m, rfl, ?_⟩
  have h : -m < x.tmod m ∧ x.tmod m < m := by
    by_cases h : 0 ≤ x
    · rw [Int.tmod_eq_emod_of_nonneg h]
      have := Int.emod_nonneg x (show m ≠ 0 by omega)
      have := Int.emod_lt_of_pos x hm
      omega
    · have e : x.tmod m = -((-x).tmod m) := by rw [Int.neg_tmod]; omega
      rw [e, Int.tmod_eq_emod_of_nonneg (by omega)]
      have := Int.emod_nonneg (-x) (show m ≠ 0 by omega)
      have := Int.emod_lt_of_pos (-x) hm
      omega
  refine ⟨h.1, h.2, ((x.tmod m + m).tmod m).toNat, ?_, ?_⟩
  · have : 0 ≤ (x.tmod m + m).tmod m := Int.tmod_nonneg _ (by omega)
    omega
  · have h1 : 0 ≤ (x.tmod m + m).tmod m := Int.tmod_nonneg _ (by omega)
    have h2 : (x.tmod m + m).tmod m < m := by rw [Int.tmod_eq_emod_of_nonneg (by omega)]; exact Int.emod_lt_of_pos _ hm
    omega
theorem mxs (a b c : Nat) (h : max a b = c) : (if (a : Int) < (b : Int) then (b : Int) else (a : Int)) = (c : Int) ∧ (if a < b then (b : Int) else (a : Int)) = (c : Int) ∧ max (a : Int) (b : Int) = (c : Int) ∧ (c = a ∨ c = b) ∧ a ≤ c ∧ b ≤ c := ⟨by split <;> omega, by split <;> omega, by omega, by omega, by omega, by omega⟩
theorem mns (a b c : Nat) (h : min a b = c) : (if (b : Int) < (a : Int) then (b : Int) else (a : Int)) = (c : Int) ∧ (if b < a then (b : Int) else (a : Int)) = (c : Int) ∧ min (a : Int) (b : Int) = (c : Int) ∧ (c = a ∨ c = b) ∧ c ≤ a ∧ c ≤ b := ⟨by split <;> omega, by split <;> omega, by omega, by omega, by omega, by omega⟩
theorem mxi (a b c : Int) (h : max a b = c) : (if a < b then b else a) = c ∧ max a b = c ∧ a ≤ c ∧ b ≤ c ∧ (c = a ∨ c = b) := ⟨by split <;> omega, h, by omega, by omega, by omega⟩
theorem mni (a b c : Int) (h : min a b = c) : (if b < a then b else a) = c ∧ min a b = c ∧ c ≤ a ∧ c ≤ b ∧ (c = a ∨ c = b) := ⟨by split <;> omega, h, by omega, by omega, by omega⟩
end Go.Proofs.YtnhlachoimlhhaaGreatDoor
