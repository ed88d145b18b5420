/-
  Plain mathematics on natural numbers: products of two words in halves, roots, quotients digit by digit. Nothing of the program is named here.
-/
namespace Go.Proofs.YtbiglbclifbmhaaGreatDoor.M

/-! ### Words -/
abbrev W : Nat := 18446744073709551616
abbrev H : Nat := 4294967296

theorem mul_le_of_lt {a b m n : Nat} (ha : a ≤ m) (hb : b ≤ n) : a * b ≤ m * n := Nat.mul_le_mul ha hb

/-- A product by halves. -/
theorem parts (a b : Nat) : a * b = (a / 4294967296) * (b / 4294967296) * 18446744073709551616 + ((a / 4294967296) * (b % 4294967296) + (a % 4294967296) * (b / 4294967296)) * 4294967296 + (a % 4294967296) * (b % 4294967296) := by
  have ha := Nat.div_add_mod a 4294967296
  have hb := Nat.div_add_mod b 4294967296
  generalize a / 4294967296 = ah at *
  generalize a % 4294967296 = al at *
  generalize b / 4294967296 = bh at *
  generalize b % 4294967296 = bl at *
  subst ha hb
  grind

theorem wide_hi (a b : Nat) :
    (a / 4294967296) * (b / 4294967296) + ((a / 4294967296) * (b % 4294967296) + (a % 4294967296) * (b % 4294967296) / 4294967296) / 4294967296
      + ((a % 4294967296) * (b / 4294967296) + ((a / 4294967296) * (b % 4294967296) + (a % 4294967296) * (b % 4294967296) / 4294967296) % 4294967296) / 4294967296
      = a * b / 18446744073709551616 := by
  have h := parts a b
  generalize (a / 4294967296) * (b / 4294967296) = t at *
  generalize (a / 4294967296) * (b % 4294967296) = y at *
  generalize (a % 4294967296) * (b / 4294967296) = z at *
  generalize (a % 4294967296) * (b % 4294967296) = x at *
  omega

theorem wide_lo (a b : Nat) :
    ((a % 4294967296) * (b / 4294967296) + ((a / 4294967296) * (b % 4294967296) + (a % 4294967296) * (b % 4294967296) / 4294967296) % 4294967296) % 4294967296 * 4294967296
      + (a % 4294967296) * (b % 4294967296) % 4294967296
      = a * b % 18446744073709551616 := by
  have h := parts a b
  generalize (a / 4294967296) * (b / 4294967296) = t at *
  generalize (a / 4294967296) * (b % 4294967296) = y at *
  generalize (a % 4294967296) * (b / 4294967296) = z at *
  generalize (a % 4294967296) * (b % 4294967296) = x at *
  omega

/-- The pair a, b above the pair c, d. -/
def over (a b c d : Nat) : Bool := decide (c * 18446744073709551616 + d < a * 18446744073709551616 + b)

theorem over_split (x y : Nat) : over (x / 18446744073709551616) (x % 18446744073709551616) (y / 18446744073709551616) (y % 18446744073709551616) = decide (y < x) := by
  unfold over
  have hx := Nat.div_add_mod x 18446744073709551616
  have hy := Nat.div_add_mod y 18446744073709551616
  rw [decide_eq_decide]; omega

/-! ### Sums that stop at the greatest word -/
def addT (a b : Nat) : Nat := if a + b < 18446744073709551616 then a + b else 18446744073709551615
def mulT (a b : Nat) : Nat := if a * b < 18446744073709551616 then a * b else 18446744073709551615
def mulDivT (a b c : Nat) : Nat := if c = 0 then 18446744073709551615 else if a * b / c < 18446744073709551616 then a * b / c else 18446744073709551615

/-! ### Roots -/
def isqAux : Nat → Nat → Nat → Nat
  | 0, r, _ => r
  | k + 1, r, n => if (r + 2 ^ k) * (r + 2 ^ k) ≤ n then isqAux k (r + 2 ^ k) n else isqAux k r n
/-- The greatest number whose square is at most n (n below 2^128). -/
def isq (n : Nat) : Nat := isqAux 64 0 n

theorem isqAux_spec (k : Nat) : ∀ r n, r * r ≤ n → n < (r + 2 ^ k) * (r + 2 ^ k) → isqAux k r n * isqAux k r n ≤ n ∧ n < (isqAux k r n + 1) * (isqAux k r n + 1) := by
  induction k with
  | zero => intro r n h1 h2; exact ⟨h1, by simpa [isqAux] using h2⟩
  | succ k ih =>
    intro r n h1 h2
    unfold isqAux
    have e : r + 2 ^ (k + 1) = (r + 2 ^ k) + 2 ^ k := by rw [Nat.pow_succ]; omega
    rw [e] at h2
    split
    · rename_i h; exact ih _ _ h h2
    · rename_i h; exact ih _ _ h1 (by omega)

theorem isq_spec (n : Nat) (h : n < 18446744073709551616 * 18446744073709551616) : isq n * isq n ≤ n ∧ n < (isq n + 1) * (isq n + 1) :=
  isqAux_spec 64 0 n (Nat.zero_le _) (by simpa using h)

theorem root_uniq {n r s : Nat} (h1 : r * r ≤ n) (h2 : n < (r + 1) * (r + 1)) (h3 : s * s ≤ n) (h4 : n < (s + 1) * (s + 1)) : r = s := by
  apply Nat.le_antisymm
  · apply Nat.le_of_not_lt; intro h; have := Nat.mul_le_mul (show s + 1 ≤ r from h) (show s + 1 ≤ r from h); omega
  · apply Nat.le_of_not_lt; intro h; have := Nat.mul_le_mul (show r + 1 ≤ s from h) (show r + 1 ≤ s from h); omega

theorem isq_eq {n r : Nat} (h : n < 18446744073709551616 * 18446744073709551616) (h1 : r * r ≤ n) (h2 : n < (r + 1) * (r + 1)) : isq n = r :=
  root_uniq (isq_spec n h).1 (isq_spec n h).2 h1 h2

theorem isq_lt (n : Nat) (h : n < 18446744073709551616 * 18446744073709551616) : isq n < 18446744073709551616 := by
  apply Nat.lt_of_not_le; intro hc
  have := Nat.mul_le_mul hc hc; have := (isq_spec n h).1; omega


/-- A product of two words as two words. -/
theorem halves (a b : Nat) (ha : a < 18446744073709551616) (hb : b < 18446744073709551616) :
    ∃ q r, a * b = q * 18446744073709551616 + r ∧ q < 18446744073709551616 ∧ r < 18446744073709551616 := by
  refine ⟨a * b / 18446744073709551616, a * b % 18446744073709551616, ?_, ?_, Nat.mod_lt _ (by decide)⟩
  · have := Nat.div_add_mod (a * b) 18446744073709551616; omega
  · rw [Nat.div_lt_iff_lt_mul (by decide)]
    have h := Nat.mul_le_mul (show a ≤ 18446744073709551615 by omega) (show b ≤ 18446744073709551615 by omega)
    omega

theorem half_hi {n q r : Nat} (h : n = q * 18446744073709551616 + r) (hr : r < 18446744073709551616) : n / 18446744073709551616 = q := by omega
theorem half_lo {n q r : Nat} (h : n = q * 18446744073709551616 + r) (hr : r < 18446744073709551616) : n % 18446744073709551616 = r := by omega

/-- What holds of a root that is found bit by bit, with k bits to go. -/
structure RootAt (n r k : Nat) : Prop where
  below : r * r ≤ n
  above : n < (r + 2 ^ k) * (r + 2 ^ k)
  even : r % 2 ^ k = 0
  small : r + 2 ^ k ≤ 2 ^ 64

theorem root_start (n k : Nat) (hk : k ≤ 64) (h : n < 2 ^ (2 * k)) : RootAt n 0 k := by
  refine ⟨Nat.zero_le _, ?_, Nat.zero_mod _, ?_⟩
  · rw [Nat.zero_add, ← Nat.pow_add]; rw [show k + k = 2 * k by omega]; exact h
  · rw [Nat.zero_add]; exact Nat.pow_le_pow_right (by decide) hk

theorem root_yes {n r k : Nat} (h : RootAt n r (k + 1)) (ht : (r + 2 ^ k) * (r + 2 ^ k) ≤ n) : RootAt n (r + 2 ^ k) k := by
  obtain ⟨h1, h2, h3, h4⟩ := h
  have e : 2 ^ (k + 1) = 2 ^ k + 2 ^ k := by rw [Nat.pow_succ]; omega
  have hm : r % 2 ^ k = 0 := Nat.mod_eq_zero_of_dvd (Nat.dvd_trans (Nat.pow_dvd_pow 2 (Nat.le_succ k)) (Nat.dvd_of_mod_eq_zero h3))
  refine ⟨ht, ?_, ?_, ?_⟩
  · rw [Nat.add_assoc, ← e]; exact h2
  · rw [Nat.add_mod_right]; exact hm
  · rw [Nat.add_assoc, ← e]; exact h4

theorem root_no {n r k : Nat} (h : RootAt n r (k + 1)) (ht : ¬ (r + 2 ^ k) * (r + 2 ^ k) ≤ n) : RootAt n r k := by
  obtain ⟨h1, h2, h3, h4⟩ := h
  have e : 2 ^ (k + 1) = 2 ^ k + 2 ^ k := by rw [Nat.pow_succ]; omega
  have hm : r % 2 ^ k = 0 := Nat.mod_eq_zero_of_dvd (Nat.dvd_trans (Nat.pow_dvd_pow 2 (Nat.le_succ k)) (Nat.dvd_of_mod_eq_zero h3))
  exact ⟨h1, by omega, hm, by omega⟩

theorem root_end {n r : Nat} (h : RootAt n r 0) (hn : n < 18446744073709551616 * 18446744073709551616) : isq n = r :=
  isq_eq hn h.below (by have := h.above; simpa using this)

theorem root_or {r k : Nat} (hr : r % 2 ^ (k + 1) = 0) : r ||| 2 ^ k = r + 2 ^ k := by
  obtain ⟨c, rfl⟩ := Nat.dvd_of_mod_eq_zero hr
  rw [Nat.pow_succ, Nat.mul_assoc, Nat.or_comm, Nat.add_comm]
  have h := Nat.two_pow_add_eq_or_of_lt (i := k + 1) (b := 2 ^ k) (Nat.pow_lt_pow_right (by decide) (Nat.lt_succ_self k)) c
  rw [Nat.pow_succ, Nat.mul_assoc] at h
  rw [Nat.add_comm, h, Nat.or_comm]


/-! ### A quotient bit by bit -/
/-- What holds with k bits to go: rest and quotient of the bits above. -/
structure DivAt (h l c k rest q : Nat) : Prop where
  rest_eq : rest = (h * 18446744073709551616 + l) / 2 ^ k % c
  quot_eq : q = (h * 18446744073709551616 + l) / 2 ^ k / c

theorem div_start {h l c : Nat} (hc : h < c) (hl : l < 18446744073709551616) : DivAt h l c 64 h 0 := by
  have e : (h * 18446744073709551616 + l) / 2 ^ 64 = h := by omega
  exact ⟨by rw [e, Nat.mod_eq_of_lt hc], by rw [e, Nat.div_eq_of_lt hc]⟩

theorem next_bit (h l k : Nat) (hk : k < 64) : (h * 18446744073709551616 + l) / 2 ^ k = 2 * ((h * 18446744073709551616 + l) / 2 ^ (k + 1)) + l / 2 ^ k % 2 := by
  have e : (2 : Nat) ^ 64 = 2 ^ k * 2 ^ (64 - k) := by rw [← Nat.pow_add]; congr 1; omega
  have e2 : (2 : Nat) ^ (64 - k) = 2 * 2 ^ (63 - k) := by rw [show 64 - k = (63 - k) + 1 by omega, Nat.pow_succ, Nat.mul_comm]
  have hp := Nat.two_pow_pos k
  have d : (h * 18446744073709551616 + l) / 2 ^ k = l / 2 ^ k + 2 * (2 ^ (63 - k) * h) := by
    have : h * 18446744073709551616 + l = l + 2 ^ k * (2 * (2 ^ (63 - k) * h)) := by
      have e3 : 2 ^ k * (2 * (2 ^ (63 - k) * h)) = 2 ^ k * (2 * 2 ^ (63 - k)) * h := by simp only [Nat.mul_assoc]
      rw [e3, ← e2, ← e]; omega
    rw [this, Nat.add_mul_div_left _ _ hp]
  rw [Nat.pow_succ, ← Nat.div_div_eq_div_mul, d]
  generalize l / 2 ^ k = x
  generalize 2 ^ (63 - k) * h = y
  omega

theorem div_step {h l c k rest q : Nat} (hk : k < 64) (d : DivAt h l c (k + 1) rest q) (hc : h < c) (hl : l < 18446744073709551616) (hc2 : c < 18446744073709551616) :
    rest < c ∧ q < 9223372036854775808
    ∧ (c ≤ 2 * rest + l / 2 ^ k % 2 → DivAt h l c k (2 * rest + l / 2 ^ k % 2 - c) (2 * q + 1))
    ∧ (2 * rest + l / 2 ^ k % 2 < c → DivAt h l c k (2 * rest + l / 2 ^ k % 2) (2 * q)) := by
  obtain ⟨h1, h2⟩ := d
  have hb := next_bit h l k hk
  have h3 := Nat.div_add_mod ((h * 18446744073709551616 + l) / 2 ^ (k + 1)) c
  rw [← h1, ← h2] at h3
  have hcp : 0 < c := by omega
  have hr : rest < c := by rw [h1]; exact Nat.mod_lt _ hcp
  have hx : l / 2 ^ k % 2 < 2 := Nat.mod_lt _ (by decide)
  have hq : q < 9223372036854775808 := by
    rw [h2, Nat.div_lt_iff_lt_mul hcp]
    rw [Nat.pow_succ, ← Nat.div_div_eq_div_mul]
    have h4 := Nat.div_le_self (h * 18446744073709551616 + l) (2 ^ k)
    generalize (h * 18446744073709551616 + l) / 2 ^ k = y at *
    omega
  refine ⟨hr, hq, ?_, ?_⟩
  · intro ht
    refine ⟨?_, ?_⟩
    · rw [hb, ← h3]
      generalize l / 2 ^ k % 2 = b at *
      rw [show 2 * (c * q + rest) + b = (2 * rest + b - c) + c * (2 * q + 1) by rw [Nat.mul_add, Nat.mul_add, Nat.mul_one, Nat.mul_left_comm]; omega, Nat.add_mul_mod_self_left, Nat.mod_eq_of_lt (by omega)]
    · rw [hb, ← h3]
      generalize l / 2 ^ k % 2 = b at *
      rw [show 2 * (c * q + rest) + b = (2 * rest + b - c) + c * (2 * q + 1) by rw [Nat.mul_add, Nat.mul_add, Nat.mul_one, Nat.mul_left_comm]; omega, Nat.add_mul_div_left _ _ hcp, Nat.div_eq_of_lt (by omega)]; omega
  · intro ht
    refine ⟨?_, ?_⟩
    · rw [hb, ← h3]
      generalize l / 2 ^ k % 2 = b at *
      rw [show 2 * (c * q + rest) + b = (2 * rest + b) + c * (2 * q) by rw [Nat.mul_add, Nat.mul_left_comm]; omega, Nat.add_mul_mod_self_left, Nat.mod_eq_of_lt (by omega)]
    · rw [hb, ← h3]
      generalize l / 2 ^ k % 2 = b at *
      rw [show 2 * (c * q + rest) + b = (2 * rest + b) + c * (2 * q) by rw [Nat.mul_add, Nat.mul_left_comm]; omega, Nat.add_mul_div_left _ _ hcp, Nat.div_eq_of_lt (by omega)]; omega

theorem div_end {h l c rest q : Nat} (d : DivAt h l c 0 rest q) : q = (h * 18446744073709551616 + l) / c := by
  have := d.quot_eq; rwa [Nat.pow_zero, Nat.div_one] at this

theorem quot_small {h l c : Nat} (hc : h < c) (hl : l < 18446744073709551616) : (h * 18446744073709551616 + l) / c < 18446744073709551616 := by
  rw [Nat.div_lt_iff_lt_mul (by omega)]
  have := Nat.mul_le_mul_right 18446744073709551616 (show h + 1 ≤ c from hc)
  omega
theorem quot_great {h l c : Nat} (h0 : 0 < c) (hc : c ≤ h) : ¬ (h * 18446744073709551616 + l) / c < 18446744073709551616 := by
  rw [Nat.div_lt_iff_lt_mul h0]
  have := Nat.mul_le_mul_right 18446744073709551616 hc
  omega

theorem mulDivT_zero (a b : Nat) : mulDivT a b 0 = 18446744073709551615 := rfl
theorem mulDivT_top {a b c h l : Nat} (hp : a * b = h * 18446744073709551616 + l) (h0 : 0 < c) (hc : c ≤ h) : mulDivT a b c = 18446744073709551615 := by
  unfold mulDivT; rw [hp, if_neg (by omega), if_neg (quot_great h0 hc)]
theorem mulDivT_quot {a b c h l : Nat} (hp : a * b = h * 18446744073709551616 + l) (hc : h < c) (hl : l < 18446744073709551616) : mulDivT a b c = (h * 18446744073709551616 + l) / c := by
  unfold mulDivT; rw [hp, if_neg (by omega), if_pos (quot_small hc hl)]

end Go.Proofs.YtbiglbclifbmhaaGreatDoor.M
