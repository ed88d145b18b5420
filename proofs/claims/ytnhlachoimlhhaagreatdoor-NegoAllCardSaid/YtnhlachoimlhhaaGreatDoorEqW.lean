/-
  Plain mathematics of the equation: what it divides by, the rate, their order, how near they are to the true ones. Nothing of the program is named here.
  Package eqn and the document's equation.
-/
import Derived.Test.YtnhlachoimlhhaaGreatDoorMatW
import Derived.Test.YtnhlachoimlhhaaGreatDoorFixM
import Derived.Outline
namespace Go.Proofs.YtnhlachoimlhhaaGreatDoor.M
set_option linter.unusedVariables false

theorem isq_mono {m n : Nat} (h : m ≤ n) (hn : n < 18446744073709551616 * 18446744073709551616) : isq m ≤ isq n := by
  have a := isq_spec m (by omega)
  have b := isq_spec n hn
  apply Nat.le_of_not_lt; intro hc
  have := Nat.mul_le_mul (show isq n + 1 ≤ isq m from hc) (show isq n + 1 ≤ isq m from hc)
  omega
theorem sq_le {x y : Nat} (h : x * x ≤ y * y) : x ≤ y := by
  apply Nat.le_of_not_lt; intro hc
  have := Nat.mul_lt_mul'' hc hc
  omega
theorem sq_lt {x y : Nat} (h : x * x < y * y) : x < y := by
  apply Nat.lt_of_not_le; intro hc
  have := Nat.mul_le_mul hc hc
  omega

def inLoss (n : Nat) : Nat := max 1 (min n 4294967296)
def inTime (r : Nat) : Nat := max 1 (min r 4294967296)
def inBytes (s : Nat) : Nat := max 1 (min s 65535)
def eqA (n : Nat) : Nat := isq (8589934592 * n / 3)
def eqB (n : Nat) : Nat := isq (12884901888 * n / 8)
def eqC (n : Nat) : Nat := 4294967296 + 32 * n * n / 4294967296
def eqD (n : Nat) : Nat := eqB n * n / 4294967296
/-- What the equation divides by (n from 1 to 2^32). -/
def eqF (n : Nat) : Nat := eqA n + 12 * (eqD n * eqC n / 4294967296)
def eqnF (n : Nat) : Nat := eqF (inLoss n)
def eqRate (s r n : Nat) : Nat := 64000000 * s * 4294967296 / eqF n / r
def eqnRate (s r n : Nat) : Nat := eqRate (inBytes s) (inTime r) (inLoss n)

theorem eqA_bd (n : Nat) (h : n ≤ 4294967296) : 8589934592 * n / 3 < 18446744073709551616 ∧ eqA n < 4294967296 := by
  have h1 : 8589934592 * n / 3 < 18446744073709551616 := by omega
  refine ⟨h1, ?_⟩
  have := (isq_spec (8589934592 * n / 3) (by omega)).1
  unfold eqA
  apply Nat.lt_of_not_le; intro hc
  have := Nat.mul_le_mul hc hc
  omega
theorem eqB_bd (n : Nat) (h : n ≤ 4294967296) : 12884901888 * n / 8 < 18446744073709551616 ∧ eqB n < 4294967296 := by
  have h1 : 12884901888 * n / 8 < 18446744073709551616 := by omega
  refine ⟨h1, ?_⟩
  have := (isq_spec (12884901888 * n / 8) (by omega)).1
  unfold eqB
  apply Nat.lt_of_not_le; intro hc
  have := Nat.mul_le_mul hc hc
  omega
theorem nn_le (n : Nat) (h : n ≤ 4294967296) : 32 * n * n ≤ 137438953472 * n := by
  have := Nat.mul_le_mul_right n (Nat.mul_le_mul_left 32 h)
  omega
theorem eqC_bd (n : Nat) (h : n ≤ 4294967296) : 32 * n * n / 4294967296 ≤ 137438953472 ∧ eqC n ≤ 141733920768 ∧ 4294967296 ≤ eqC n := by
  have := nn_le n h
  unfold eqC
  omega
theorem eqD_bd (n : Nat) (h : n ≤ 4294967296) : eqD n < 4294967296 := by
  have h1 := (eqB_bd n h).2
  have := Nat.mul_le_mul (show eqB n ≤ 4294967295 by omega) h
  unfold eqD
  omega
theorem eqT_bd (n : Nat) (h : n ≤ 4294967296) : eqD n * eqC n / 4294967296 ≤ 141733920768 := by
  have h1 := eqD_bd n h
  have := Nat.mul_le_mul (show eqD n ≤ 4294967296 by omega) (eqC_bd n h).2.1
  omega
theorem eqF_bd (n : Nat) (h : n ≤ 4294967296) : eqF n < 2000000000000 := by
  have h1 := eqT_bd n h
  have h2 := (eqA_bd n h).2
  unfold eqF
  omega
theorem inLoss_bd (n : Nat) : 1 ≤ inLoss n ∧ inLoss n ≤ 4294967296 := by unfold inLoss; omega
theorem inTime_bd (n : Nat) : 1 ≤ inTime n ∧ inTime n ≤ 4294967296 := by unfold inTime; omega
theorem inBytes_bd (n : Nat) : 1 ≤ inBytes n ∧ inBytes n ≤ 65535 := by unfold inBytes; omega
theorem eqA_mono {m n : Nat} (h : m ≤ n) (hn : n ≤ 4294967296) : eqA m ≤ eqA n := isq_mono (Nat.div_le_div_right (by omega)) (by have := (eqA_bd n hn).1; omega)
theorem eqB_mono {m n : Nat} (h : m ≤ n) (hn : n ≤ 4294967296) : eqB m ≤ eqB n := isq_mono (Nat.div_le_div_right (by omega)) (by have := (eqB_bd n hn).1; omega)
theorem eqC_mono {m n : Nat} (h : m ≤ n) : eqC m ≤ eqC n := by
  unfold eqC
  have := Nat.mul_le_mul (Nat.mul_le_mul_left 32 h) h
  have := Nat.div_le_div_right (c := 4294967296) this
  omega
theorem eqD_mono {m n : Nat} (h : m ≤ n) (hn : n ≤ 4294967296) : eqD m ≤ eqD n := Nat.div_le_div_right (Nat.mul_le_mul (eqB_mono h hn) h)
theorem eqF_mono {m n : Nat} (h : m ≤ n) (hn : n ≤ 4294967296) : eqF m ≤ eqF n := by
  have h1 := Nat.div_le_div_right (c := 4294967296) (Nat.mul_le_mul (eqD_mono h hn) (eqC_mono h))
  have h2 := eqA_mono h hn
  unfold eqF
  omega
theorem eqA_one : eqA 1 = 53509 := by decide +kernel
theorem eqF_ge (n : Nat) (h1 : 1 ≤ n) (hn : n ≤ 4294967296) : 53509 ≤ eqF n := by
  have := eqA_mono h1 hn
  rw [eqA_one] at this
  unfold eqF
  omega
/-- The quotients of the equation fit a word. -/
theorem rate_fits (s n : Nat) (hs : s ≤ 65535) (h1 : 1 ≤ n) (hn : n ≤ 4294967296) : 64000000 * s * 4294967296 / eqF n < 18446744073709551616 := by
  have h := eqF_ge n h1 hn
  have := Nat.div_le_div_left (a := 64000000 * s * 4294967296) h (by decide)
  omega
theorem eqnF_mono {m n : Nat} (h : m ≤ n) : eqnF m ≤ eqnF n := eqF_mono (by unfold inLoss; omega) (inLoss_bd n).2
theorem eqnRate_s (s r n a : Nat) : eqnRate s r n ≤ eqnRate (max s a) r n :=
  Nat.div_le_div_right (Nat.div_le_div_right (Nat.mul_le_mul_right _ (Nat.mul_le_mul_left _ (by unfold inBytes; omega))))
theorem eqnRate_r (s r n b : Nat) : eqnRate s (max r b) n ≤ eqnRate s r n :=
  Nat.div_le_div_left (by unfold inTime; omega) (by have := inTime_bd r; omega)
theorem eqnRate_n (s r n c : Nat) : eqnRate s r (max n c) ≤ eqnRate s r n :=
  Nat.div_le_div_right (Nat.div_le_div_left (eqF_mono (by unfold inLoss; omega) (inLoss_bd _).2) (by have := eqF_ge _ (inLoss_bd n).1 (inLoss_bd n).2; omega))

/-! ### How near -/
def brA (n : Nat) : Nat := isq (n * 1073741824 / 3 * 8796093022208)
def brB (n : Nat) : Nat := isq (3 * n * 9223372036854775808) * 8
def brLow (n : Nat) : Nat := brA n + 12 * (brB n * n / 4294967296 * eqC n / 4294967296)
def brHigh (n : Nat) : Nat := brA n + brA n / 65536 + 64 + 12 * (((brB n + 16) * n / 4294967296 + 1) * (eqC n + 1) / 4294967296 + 1)

theorem brA_ge (n : Nat) (h1 : 1 ≤ n) (hn : n ≤ 4294967296) : 50000000000 ≤ brA n := by
  have h : 50000000000 ≤ brA 1 := by decide +kernel
  refine Nat.le_trans h (isq_mono ?_ (by omega))
  omega
theorem brA_lt (n : Nat) (hn : n ≤ 4294967296) : brA n < 4503599627370496 := by
  have := (isq_spec (n * 1073741824 / 3 * 8796093022208) (by omega)).1
  unfold brA
  apply Nat.lt_of_not_le; intro hc
  have := Nat.mul_le_mul hc hc
  omega
theorem brB_lt (n : Nat) (hn : n ≤ 4294967296) : brB n < 4503599627370496 := by
  have := (isq_spec (3 * n * 9223372036854775808) (by omega)).1
  unfold brB
  have : isq (3 * n * 9223372036854775808) < 562949953421312 := by
    apply Nat.lt_of_not_le; intro hc
    have := Nat.mul_le_mul hc hc
    omega
  omega
/-- From above: the whole of F stands below the upper bound. -/
theorem eqA_high (n : Nat) (h1 : 1 ≤ n) (hn : n ≤ 4294967296) : eqA n * 1048576 ≤ brA n + 64 := by
  have ha := (isq_spec (8589934592 * n / 3) (by have := (eqA_bd n hn).1; omega)).1
  have hb := (isq_spec (n * 1073741824 / 3 * 8796093022208) (by omega)).2
  have hg := brA_ge n h1 hn
  have e1 : isq (8589934592 * n / 3) = eqA n := rfl
  have e2 : isq (n * 1073741824 / 3 * 8796093022208) = brA n := rfl
  rw [e1] at ha
  rw [e2] at hb
  generalize eqA n = a at *
  generalize brA n = b at *
  apply Nat.le_of_not_lt; intro hc
  have hm := Nat.mul_le_mul (show b + 1 + 64 ≤ a * 1048576 by omega) (show b + 1 + 64 ≤ a * 1048576 by omega)
  have e3 : (b + 1 + 64) * (b + 1 + 64) = (b + 1) * (b + 1) + 128 * (b + 1) + 4096 := by grind
  have e4 : a * 1048576 * (a * 1048576) = a * a * 1099511627776 := by grind
  rw [e3, e4] at hm
  omega
theorem eqB_high (n : Nat) (hn : n ≤ 4294967296) : eqB n * 1048576 ≤ brB n + 16 := by
  have ha := (isq_spec (12884901888 * n / 8) (by have := (eqB_bd n hn).1; omega)).1
  have hb := (isq_spec (3 * n * 9223372036854775808) (by omega)).2
  have e1 : isq (12884901888 * n / 8) = eqB n := rfl
  rw [e1] at ha
  have e2 : brB n = isq (3 * n * 9223372036854775808) * 8 := rfl
  rw [e2]
  generalize eqB n = a at *
  generalize isq (3 * n * 9223372036854775808) = b at *
  apply Nat.le_of_not_lt; intro hc
  have hm := Nat.mul_le_mul (show (b + 1) * 8 ≤ a * 1048576 by omega) (show (b + 1) * 8 ≤ a * 1048576 by omega)
  have e3 : (b + 1) * 8 * ((b + 1) * 8) = (b + 1) * (b + 1) * 64 := by grind
  have e4 : a * 1048576 * (a * 1048576) = a * a * 1099511627776 := by grind
  rw [e3, e4] at hm
  omega
theorem part_high {x z : Nat} (h : x * 1048576 ≤ z) : x / 4294967296 * 1048576 ≤ z / 4294967296 + 1 := by
  have h1 := Nat.mul_le_mul_right 1048576 (Nat.div_mul_le_self x 4294967296)
  have h2 : x / 4294967296 * 1048576 ≤ z / 4294967296 := (Nat.le_div_iff_mul_le (by decide)).2 (by rw [Nat.mul_right_comm]; exact Nat.le_trans h1 h)
  exact Nat.le_succ_of_le h2
theorem eqD_high (n : Nat) (hn : n ≤ 4294967296) : eqD n * 1048576 ≤ (brB n + 16) * n / 4294967296 + 1 := by
  have h2 := Nat.mul_le_mul_right n (eqB_high n hn)
  rw [Nat.mul_right_comm] at h2
  unfold eqD
  exact part_high h2
theorem eqT_high (n : Nat) (hn : n ≤ 4294967296) : eqD n * eqC n / 4294967296 * 1048576 ≤ ((brB n + 16) * n / 4294967296 + 1) * (eqC n + 1) / 4294967296 + 1 := by
  have h2 := Nat.mul_le_mul (eqD_high n hn) (Nat.le_succ (eqC n))
  rw [Nat.mul_right_comm] at h2
  exact part_high h2
theorem eqF_high (n : Nat) (h1 : 1 ≤ n) (hn : n ≤ 4294967296) : eqF n * 1048576 ≤ brHigh n := by
  have hA := eqA_high n h1 hn
  have hT := Nat.mul_le_mul_left 12 (eqT_high n hn)
  rw [← Nat.mul_assoc] at hT
  unfold eqF brHigh
  rw [Nat.add_mul]
  exact Nat.add_le_add (Nat.le_trans hA (Nat.add_le_add_right (Nat.le_add_right _ _) _)) hT
/-- From below. -/
theorem eqA_low (n : Nat) (hn : n ≤ 4294967296) : brA n < (eqA n + 1) * 1048576 := by
  have ha := (isq_spec (8589934592 * n / 3) (by have := (eqA_bd n hn).1; omega)).2
  have hb := (isq_spec (n * 1073741824 / 3 * 8796093022208) (by omega)).1
  have e1 : isq (8589934592 * n / 3) = eqA n := rfl
  have e2 : isq (n * 1073741824 / 3 * 8796093022208) = brA n := rfl
  rw [e1] at ha
  rw [e2] at hb
  apply sq_lt
  rw [Nat.mul_mul_mul_comm]
  omega
theorem eqB_low (n : Nat) (hn : n ≤ 4294967296) : brB n < (eqB n + 1) * 1048576 := by
  have ha := (isq_spec (12884901888 * n / 8) (by have := (eqB_bd n hn).1; omega)).2
  have hb := (isq_spec (3 * n * 9223372036854775808) (by omega)).1
  have e1 : isq (12884901888 * n / 8) = eqB n := rfl
  rw [e1] at ha
  have e2 : brB n = isq (3 * n * 9223372036854775808) * 8 := rfl
  rw [e2]
  apply sq_lt
  have e3 : isq (3 * n * 9223372036854775808) * 8 * (isq (3 * n * 9223372036854775808) * 8) = isq (3 * n * 9223372036854775808) * isq (3 * n * 9223372036854775808) * 64 := Nat.mul_mul_mul_comm _ _ _ _
  have e4 : (eqB n + 1) * 1048576 * ((eqB n + 1) * 1048576) = (eqB n + 1) * (eqB n + 1) * 1099511627776 := Nat.mul_mul_mul_comm _ _ _ _
  rw [e3, e4]
  omega
theorem part_low {x b n : Nat} (hb : b < (x + 1) * 1048576) (hn : n ≤ 4294967296) : b * n / 4294967296 ≤ (x * n / 4294967296 + 2) * 1048576 := by
  have h2 := Nat.mul_le_mul_right n (show b ≤ (x + 1) * 1048576 by omega)
  have e : (x + 1) * 1048576 * n = x * n * 1048576 + n * 1048576 := by grind
  rw [e] at h2
  generalize x * n = q at *
  generalize b * n = p at *
  omega
theorem eqT_low (n : Nat) (hn : n ≤ 4294967296) : brB n * n / 4294967296 * eqC n / 4294967296 ≤ (eqD n * eqC n / 4294967296 + 1 + (2 * eqC n / 4294967296 + 1)) * 1048576 := by
  have h := Nat.mul_le_mul_right (eqC n) (part_low (eqB_low n hn) hn)
  have e0 : eqB n * n / 4294967296 = eqD n := rfl
  rw [e0] at h
  have e : (eqD n + 2) * 1048576 * eqC n = eqD n * eqC n * 1048576 + eqC n * 2097152 := by grind
  rw [e] at h
  generalize eqD n * eqC n = q at *
  generalize brB n * n / 4294967296 * eqC n = p at *
  generalize eqC n = c at *
  omega
theorem eqC_low (n : Nat) (hn : n < 65536) : eqC n ≤ 4294967328 := by
  have := Nat.mul_le_mul (Nat.mul_le_mul_left 32 (show n ≤ 65536 by omega)) (show n ≤ 65536 by omega)
  unfold eqC
  omega
theorem low_le (n : Nat) (h1 : 1 ≤ n) (hn : n ≤ 4294967296) : 1024 * brLow n ≤ 1025 * (eqF n * 1048576) := by
  have hA := eqA_low n hn
  have hT := eqT_low n hn
  have hg : 1024 * (13 + 12 * (2 * eqC n / 4294967296 + 1)) ≤ eqF n := by
    by_cases hs : n < 65536
    · have := eqC_low n hs
      have := eqF_ge n h1 hn
      omega
    · have h3 := eqA_mono (show 65536 ≤ n by omega) hn
      have h4 : 1000000 ≤ eqA 65536 := by decide +kernel
      have := (eqC_bd n hn).2.1
      unfold eqF
      omega
  unfold brLow
  have e : eqF n = eqA n + 12 * (eqD n * eqC n / 4294967296) := rfl
  omega
theorem low_pos (n : Nat) (h1 : 1 ≤ n) (hn : n ≤ 4294967296) : 50000000000 ≤ brLow n := by
  have := brA_ge n h1 hn
  unfold brLow
  omega
theorem high_pos (n : Nat) (h1 : 1 ≤ n) (hn : n ≤ 4294967296) : 50000000000 ≤ brHigh n := by
  have := brA_ge n h1 hn
  unfold brHigh
  omega
def brMost (s r n : Nat) : Nat := 64000000 * s * 4503599627370496 / brLow n / r + 1
def brLeast (s r n : Nat) : Nat := 64000000 * s * 4503599627370496 / brHigh n / r
theorem quot_lt (X L r : Nat) (hL : 0 < L) (hr : 0 < r) : X < (X / L / r + 1) * (L * r) := by
  rw [Nat.div_div_eq_div_mul]
  have := Nat.lt_mul_div_succ X (Nat.mul_pos hL hr)
  rw [Nat.mul_comm]
  exact this
theorem quot_ge (X L r : Nat) : X / L / r * (L * r) ≤ X := by
  rw [Nat.div_div_eq_div_mul]
  exact Nat.div_mul_le_self X _
theorem rate_most (s r n : Nat) (hr : 1 ≤ r) (h1 : 1 ≤ n) (hn : n ≤ 4294967296) : eqRate s r n ≤ brMost s r n + brMost s r n / 1024 + 1 := by
  have hF := eqF_ge n h1 hn
  have hy := quot_ge (64000000 * s * 4294967296) (eqF n) r
  have hm := quot_lt (64000000 * s * 4503599627370496) (brLow n) r (by have := low_pos n h1 hn; omega) (by omega)
  have hk := low_le n h1 hn
  have ey : eqRate s r n = 64000000 * s * 4294967296 / eqF n / r := by simp only [eqRate]
  have em : brMost s r n = 64000000 * s * 4503599627370496 / brLow n / r + 1 := by simp only [brMost]
  rw [← ey] at hy
  rw [← em] at hm
  generalize eqRate s r n = y at *
  generalize brMost s r n = m at *
  generalize eqF n = F at *
  generalize brLow n = L at *
  obtain ⟨X, hX⟩ : ∃ X, 64000000 * s * 4294967296 = X := ⟨_, rfl⟩
  have e1 : 64000000 * s * 4503599627370496 = X * 1048576 := by rw [← hX, Nat.mul_assoc (64000000 * s)]
  rw [e1] at hm
  rw [hX] at hy
  -- y F r 2^20 ≤ X 2^20 < m L r, 1024 L ≤ 1025 F 2^20
  have h2 : y * (F * r) * 1048576 < m * (L * r) := Nat.lt_of_le_of_lt (Nat.mul_le_mul_right _ hy) hm
  have h3 : 1024 * y * (F * r * 1048576) < 1025 * m * (F * r * 1048576) := by
    have h4 := Nat.mul_le_mul_left (m * r) hk
    have e2 : m * r * (1024 * L) = 1024 * (m * (L * r)) := by grind
    have e3 : m * r * (1025 * (F * 1048576)) = 1025 * m * (F * r * 1048576) := by grind
    have e4 : 1024 * y * (F * r * 1048576) = 1024 * (y * (F * r) * 1048576) := by grind
    rw [e2, e3] at h4
    rw [e4]
    omega
  have h5 := Nat.lt_of_mul_lt_mul_right h3
  omega
theorem rate_least (s r n : Nat) (hr : 1 ≤ r) (h1 : 1 ≤ n) (hn : n ≤ 4294967296) : brLeast s r n ≤ eqRate s r n + 1 := by
  have hF := eqF_ge n h1 hn
  have hy := quot_lt (64000000 * s * 4294967296) (eqF n) r (by omega) (by omega)
  have hm := quot_ge (64000000 * s * 4503599627370496) (brHigh n) r
  have hk := eqF_high n h1 hn
  have ey : eqRate s r n = 64000000 * s * 4294967296 / eqF n / r := by simp only [eqRate]
  have em : brLeast s r n = 64000000 * s * 4503599627370496 / brHigh n / r := by simp only [brLeast]
  rw [← ey] at hy
  rw [← em] at hm
  generalize eqRate s r n = y at *
  generalize brLeast s r n = m at *
  generalize eqF n = F at *
  generalize brHigh n = L at *
  obtain ⟨X, hX⟩ : ∃ X, 64000000 * s * 4294967296 = X := ⟨_, rfl⟩
  have e1 : 64000000 * s * 4503599627370496 = X * 1048576 := by rw [← hX, Nat.mul_assoc (64000000 * s)]
  rw [e1] at hm
  rw [hX] at hy
  have h3 : m * (L * r) < (y + 1) * (L * r) := by
    have h4 := Nat.mul_le_mul_left ((y + 1) * r) hk
    have e2 : (y + 1) * r * (F * 1048576) = (y + 1) * (F * r) * 1048576 := by grind
    have e3 : (y + 1) * r * L = (y + 1) * (L * r) := by grind
    rw [e2, e3] at h4
    omega
  have h5 := Nat.lt_of_mul_lt_mul_right h3
  omega
end Go.Proofs.YtnhlachoimlhhaaGreatDoor.M

namespace Go.Proofs.YtnhlachoimlhhaaGreatDoor
open Go.ChangeShapes Go.WideShapes Go.ChangeAt Go.RowKit
set_option linter.unusedVariables false
set_option linter.unusedSimpArgs false

theorem fixMulDiv_at (a b c q : Nat) (ha : a < 18446744073709551616) (hb : b < 18446744073709551616) (hc : c < 18446744073709551616) (h0 : 0 < c) (hq : a * b / c = q) (hq2 : q < 18446744073709551616) (w : World) :
    Calls Tryz.prog 182 #[.int .u64 a, .int .u64 b, .int .u64 c] w fun e w' => e = .returned (.int .u64 q) ∧ ∃ n, w' = w.drewN n :=
  (fixMulDiv_any a b c ha hb hc w).mono fun e w' ⟨h1, h2⟩ => ⟨by rw [h1, show M.mulDivT a b c = q by unfold M.mulDivT; rw [if_neg (by omega), hq, if_pos hq2]], h2⟩
theorem refMulDiv_at (a b c q : Nat) (ha : a < 18446744073709551616) (hb : b < 18446744073709551616) (hc : c < 18446744073709551616) (h0 : 0 < c) (hq : a * b / c = q) (hq2 : q < 18446744073709551616) (w : World) :
    Calls Tryz.prog 49 #[.int .u64 a, .int .u64 b, .int .u64 c] w fun e w' => e = .returned (.int .u64 q) ∧ w = w' :=
  (refMulDiv_any a b c ha hb hc w).mono fun e w' ⟨h1, h2⟩ => ⟨by rw [h1, show M.mulDivT a b c = q by unfold M.mulDivT; rw [if_neg (by omega), hq, if_pos hq2]], h2⟩
theorem within_any (n m : Nat) (hn : n < 18446744073709551616) (hm : 1 ≤ m ∧ m < 18446744073709551616) (w : World) :
    Calls Tryz.prog 187 #[.int .u64 n, .int .u64 m] w fun e w' => e = .returned (.int .u64 (max 1 (min n m) : Nat)) ∧ w = w' := by
  obtain ⟨E, hE⟩ : ∃ E, min n m = E := ⟨_, rfl⟩
  obtain ⟨F, hF⟩ : ∃ F, max 1 E = F := ⟨_, rfl⟩
  have i1 : (if (m : Int) < (n : Int) then (m : Int) else (n : Int)) = (E : Int) := by split <;> omega
  have i2 : (if (1 : Int) < (E : Int) then (E : Int) else 1) = (F : Int) := by split <;> omega
  have i3 : min (n : Int) (m : Int) = (E : Int) := by omega
  have i4 : max (1 : Int) (E : Int) = (F : Int) := by omega
  rw [hE, hF]
  clear hE hF hn hm
  go_enter Tryz.func187, Tryz.ntmps187
  go_wp2
  go_ret
  exact ⟨rfl, rfl⟩

set_option maxHeartbeats 2000000 in
theorem eqnF_any (n : Nat) (hn : n < 18446744073709551616) (w : World) :
    Calls Tryz.prog 188 #[.int .u64 n] w fun e w' => e = .returned (.int .u64 (M.eqnF n)) ∧ ∃ k, w' = w.drewN k := by
  obtain ⟨N, hN⟩ : ∃ N, M.inLoss n = N := ⟨_, rfl⟩
  obtain ⟨hN1, hN2⟩ := M.inLoss_bd n
  have HF : Hid (M.eqnF n = M.eqF (M.inLoss n)) := Lib.hid rfl
  have HW : Hid (∀ W, Calls Tryz.prog 187 #[.int .u64 n, .int .u64 4294967296] W fun e w' => e = .returned (.int .u64 N) ∧ W = w') := Lib.hid (fun W => by
    have h := within_any n 4294967296 hn (by decide) W
    rw [show max 1 (min n 4294967296) = N from hN] at h
    exact h)
  rw [hN] at hN1 hN2 HF
  obtain ⟨k1, k2⟩ := M.eqA_bd N hN2
  obtain ⟨k3, k4⟩ := M.eqB_bd N hN2
  obtain ⟨k5, k6, k7⟩ := M.eqC_bd N hN2
  have k8 := M.eqD_bd N hN2
  have k9 := M.eqT_bd N hN2
  have e1 : M.isq (8589934592 * N / 3) = M.eqA N := rfl
  have e2 : M.isq (12884901888 * N / 8) = M.eqB N := rfl
  have e3 : M.eqC N = 4294967296 + 32 * N * N / 4294967296 := rfl
  have e4 : M.eqB N * N / 4294967296 = M.eqD N := rfl
  have e5 : M.eqF N = M.eqA N + 12 * (M.eqD N * M.eqC N / 4294967296) := rfl
  rw [e5] at HF
  have H1 := Lib.hid (fun W => fixMulDiv_at 8589934592 N 3 (8589934592 * N / 3) (by decide) (by omega) (by decide) (by decide) rfl k1 W)
  have H2 := Lib.hid (fun W => fixSqrt_any (8589934592 * N / 3) k1 W)
  have H3 := Lib.hid (fun W => fixMulDiv_at 12884901888 N 8 (12884901888 * N / 8) (by decide) (by omega) (by decide) (by decide) rfl k3 W)
  have H4 := Lib.hid (fun W => fixSqrt_any (12884901888 * N / 8) k3 W)
  have H5 := Lib.hid (fun W => fixMulDiv_at (32 * N) N 4294967296 (32 * N * N / 4294967296) (by omega) (by omega) (by decide) (by decide) rfl (by omega) W)
  have H6 := Lib.hid (fun W => fixMulDiv_at (M.eqB N) N 4294967296 (M.eqD N) (by omega) (by omega) (by decide) (by decide) e4 (by omega) W)
  have H7 := Lib.hid (fun W => fixMulDiv_at (M.eqD N) (M.eqC N) 4294967296 (M.eqD N * M.eqC N / 4294967296) (by omega) (by omega) (by decide) (by decide) rfl (by omega) W)
  rw [e1] at H2
  rw [e2] at H4
  rw [e3] at H7 k6 k7 HF k9
  generalize 8589934592 * N / 3 = a1 at *
  generalize 12884901888 * N / 8 = b1 at *
  generalize 32 * N * N / 4294967296 = c1 at *
  generalize M.eqA N = A at *
  generalize M.eqB N = B at *
  generalize M.eqD N = D at *
  generalize D * (4294967296 + c1) / 4294967296 = T at *
  obtain ⟨C, hC⟩ : ∃ C, 4294967296 + c1 = C := ⟨_, rfl⟩
  obtain ⟨N32, hN32⟩ : ∃ C, 32 * N = C := ⟨_, rfl⟩
  rw [hC] at H7 k6
  rw [hN32] at H5
  have i1 : (4294967296 : Int) + (c1 : Int) = (C : Int) := by omega
  have i2 : (32 : Int) * (N : Int) = (N32 : Int) := by omega
  have i3 : (N32 : Int) ≤ 137438953472 := by omega
  have G1 : Hid (∀ W, Calls Tryz.prog 182 #[.int .u64 8589934592, .int .u64 N, .int .u64 3] W fun e w' => e = .returned (.int .u64 a1) ∧ ∃ k, w' = W.drewN k) := H1
  have G3 : Hid (∀ W, Calls Tryz.prog 182 #[.int .u64 12884901888, .int .u64 N, .int .u64 8] W fun e w' => e = .returned (.int .u64 b1) ∧ ∃ k, w' = W.drewN k) := H3
  have G5 : Hid (∀ W, Calls Tryz.prog 182 #[.int .u64 N32, .int .u64 N, .int .u64 4294967296] W fun e w' => e = .returned (.int .u64 c1) ∧ ∃ k, w' = W.drewN k) := H5
  have G6 : Hid (∀ W, Calls Tryz.prog 182 #[.int .u64 B, .int .u64 N, .int .u64 4294967296] W fun e w' => e = .returned (.int .u64 D) ∧ ∃ k, w' = W.drewN k) := H6
  have G7 : Hid (∀ W, Calls Tryz.prog 182 #[.int .u64 D, .int .u64 C, .int .u64 4294967296] W fun e w' => e = .returned (.int .u64 T) ∧ ∃ k, w' = W.drewN k) := H7
  clear H1 H3 H5 H6 H7 e1 e2 e3 e4 e5 hC hN32 hN
  have A1 : (A : Int) < 4294967296 := by omega
  have T1 : (T : Int) ≤ 141733920768 := by omega
  go_enter Tryz.func188, Tryz.ntmps188
  go_wp2_with (first
    | (go_at_call 187; (with_reducible refine (HW.out _).mono ?_); rintro e w1 ⟨rfl, rfl⟩)
    | (go_at_call 182; (with_reducible refine (G1.out _).mono ?_); rintro e w1 ⟨rfl, k1, rfl⟩; clear G1)
    | (go_at_call 182; (with_reducible refine (G3.out _).mono ?_); rintro e w1 ⟨rfl, k2, rfl⟩; clear G3)
    | (go_at_call 182; (with_reducible refine (G5.out _).mono ?_); rintro e w1 ⟨rfl, k3, rfl⟩; clear G5)
    | (go_at_call 182; (with_reducible refine (G6.out _).mono ?_); rintro e w1 ⟨rfl, k4, rfl⟩; clear G6)
    | (go_at_call 182; (with_reducible refine (G7.out _).mono ?_); rintro e w1 ⟨rfl, k5, rfl⟩; clear G7)
    | (go_at_call 209; (with_reducible refine (H2.out _).mono ?_); rintro e w1 ⟨rfl, rfl⟩; clear H2)
    | (go_at_call 209; (with_reducible refine (H4.out _).mono ?_); rintro e w1 ⟨rfl, rfl⟩; clear H4))
  go_ret
  exact ⟨M.ret_int (by rw [HF.out]; omega), _, rfl⟩

set_option maxHeartbeats 2000000 in
theorem eqnRate_any (s r n : Nat) (hs : s < 18446744073709551616) (hr : r < 18446744073709551616) (hn : n < 18446744073709551616) (w : World) :
    Calls Tryz.prog 149 #[.int .u64 s, .int .u64 r, .int .u64 n] w fun e w' => e = .returned (.int .u64 (M.eqnRate s r n)) ∧ ∃ k, w' = w.drewN k := by
  have HS : Hid (∀ W, Calls Tryz.prog 187 #[.int .u64 s, .int .u64 65535] W fun e w' => e = .returned (.int .u64 (M.inBytes s : Nat)) ∧ W = w') := Lib.hid (fun W => within_any s 65535 hs (by decide) W)
  have HT : Hid (∀ W, Calls Tryz.prog 187 #[.int .u64 r, .int .u64 4294967296] W fun e w' => e = .returned (.int .u64 (M.inTime r : Nat)) ∧ W = w') := Lib.hid (fun W => within_any r 4294967296 hr (by decide) W)
  have HF := Lib.hid (fun W => eqnF_any n hn W)
  have hfits := M.rate_fits (M.inBytes s) (M.inLoss n) (M.inBytes_bd s).2 (M.inLoss_bd n).1 (M.inLoss_bd n).2
  have hF1 := M.eqF_ge (M.inLoss n) (M.inLoss_bd n).1 (M.inLoss_bd n).2
  have hF2 := M.eqF_bd (M.inLoss n) (M.inLoss_bd n).2
  obtain ⟨s1, s2⟩ := M.inBytes_bd s
  obtain ⟨t1, t2⟩ := M.inTime_bd r
  have HR : Hid (M.eqnRate s r n = 64000000 * M.inBytes s * 4294967296 / M.eqnF n / M.inTime r) := Lib.hid (by simp only [M.eqnRate, M.eqRate, M.eqnF])
  rw [show M.eqF (M.inLoss n) = M.eqnF n from rfl] at hfits hF1 hF2
  generalize M.inBytes s = S at *
  generalize M.inTime r = T at *
  generalize M.eqnF n = F at *
  obtain ⟨S64, hS64⟩ : ∃ S64, 64000000 * S = S64 := ⟨_, rfl⟩
  have i1 : (64000000 : Int) * (S : Int) = (S64 : Int) := by omega
  have i2 : (S64 : Int) ≤ 4194240000000 := by omega
  rw [hS64] at HR hfits
  obtain ⟨Q, hQ⟩ : ∃ Q, S64 * 4294967296 / F = Q := ⟨_, rfl⟩
  have HM : Hid (∀ W, Calls Tryz.prog 182 #[.int .u64 S64, .int .u64 4294967296, .int .u64 F] W fun e w' => e = .returned (.int .u64 Q) ∧ ∃ k, w' = W.drewN k) :=
    Lib.hid (fun W => fixMulDiv_at S64 4294967296 F Q (by omega) (by decide) (by omega) (by omega) hQ (by omega) W)
  rw [hQ] at HR hfits
  obtain ⟨q, hq⟩ : ∃ q, Q / T = q := ⟨_, rfl⟩
  have hq2 : (q : Int) < 18446744073709551616 := by have := Nat.div_le_self Q T; omega
  have i3 : (Q : Int) / (T : Int) = (q : Int) := by rw [← hq]; simp
  have hz : ((T : Int) == 0) = false := by rw [beq_eq_false_iff_ne]; omega
  have hz2 : ¬ (T = 0) := by omega
  rw [hq] at HR
  clear hQ hq hS64 s1 t1 hF1 hF2
  go_enter Tryz.func149, Tryz.ntmps149
  go_wp2_with (first
    | (go_at_call 187; (with_reducible refine (HS.out _).mono ?_); rintro e w1 ⟨rfl, rfl⟩; clear HS)
    | (go_at_call 187; (with_reducible refine (HT.out _).mono ?_); rintro e w1 ⟨rfl, rfl⟩; clear HT)
    | (go_at_call 188; (with_reducible refine (HF.out _).mono ?_); rintro e w1 ⟨rfl, k1, rfl⟩; clear HF)
    | (go_at_call 182; (with_reducible refine (HM.out _).mono ?_); rintro e w1 ⟨rfl, k2, rfl⟩; clear HM))
  go_ret
  exact ⟨M.ret_int (by rw [HR.out]), _, rfl⟩
end Go.Proofs.YtnhlachoimlhhaaGreatDoor
