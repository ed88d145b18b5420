/-
  Laws on words of 64 bits that the walks of this seat lean on: masks, products below 2^64. Nothing of the program is named here.
-/
import Derived.WalkKit
import Derived.Lib.ItoaNum
import Derived.Lib.Hide
import Derived.Test.YtbiglbclifbmhaaGreatDoorMath
namespace Go.Proofs.YtbiglbclifbmhaaGreatDoor.M
open Go

theorem u64_mask (k : Nat) (hk : k ≤ 64) (m n : Int) (hm : m = ((2 ^ k - 1 : Nat) : Int)) : bits .and .u64 n m = n % ((2 ^ k : Nat) : Int) := by
  subst hm
  have hp : 2 ^ k ≤ 2 ^ 64 := Nat.pow_le_pow_right (by decide) hk
  have h0 : 0 < 2 ^ k := Nat.two_pow_pos k
  have h1 : (BitVec.ofInt 64 ((2 ^ k - 1 : Nat) : Int)).toNat = 2 ^ k - 1 := by
    rw [BitVec.ofInt_natCast, BitVec.toNat_ofNat]; exact Nat.mod_eq_of_lt (by omega)
  have key : (BitVec.ofInt 64 n &&& BitVec.ofInt 64 ((2 ^ k - 1 : Nat) : Int)).toNat = (n % ((2 ^ 64 : Nat) : Int)).toNat % 2 ^ k := by
    rw [BitVec.toNat_and, BitVec.toNat_ofInt, h1, Nat.and_two_pow_sub_one_eq_mod]
  show IntKind.u64.wrap ((BitVec.ofInt 64 n &&& BitVec.ofInt 64 ((2 ^ k - 1 : Nat) : Int)).toNat : Nat) = _
  rw [key, IntKind.wrap_u64]
  have hd : ((2 ^ k : Nat) : Int) ∣ ((2 ^ 64 : Nat) : Int) := Int.natCast_dvd_natCast.2 (Nat.pow_dvd_pow 2 hk)
  have hn : 0 ≤ n % ((2 ^ 64 : Nat) : Int) := Int.emod_nonneg _ (by decide)
  have e : (((n % ((2 ^ 64 : Nat) : Int)).toNat % 2 ^ k : Nat) : Int) = n % ((2 ^ k : Nat) : Int) := by
    rw [Int.natCast_emod, Int.toNat_of_nonneg hn, Int.emod_emod_of_dvd _ hd]
  rw [e]
  have h2 : 0 ≤ n % ((2 ^ k : Nat) : Int) := Int.emod_nonneg _ (by omega)
  have h3 : n % ((2 ^ k : Nat) : Int) < ((2 ^ k : Nat) : Int) := Int.emod_lt_of_pos _ (by omega)
  exact Int.emod_eq_of_lt h2 (by omega)

theorem and32 (n : Int) : bits .and .u64 n 4294967295 = n % 4294967296 := u64_mask 32 (by decide) _ n (by decide)
theorem and48 (n : Int) : bits .and .u64 n 281474976710655 = n % 281474976710656 := u64_mask 48 (by decide) _ n (by decide)
theorem and24 (n : Int) : bits .and .u64 n 16777215 = n % 16777216 := u64_mask 24 (by decide) _ n (by decide)

theorem prod_in {x y : Int} (hx : 0 ≤ x) (hx2 : x ≤ 4294967295) (hy : 0 ≤ y) (hy2 : y ≤ 4294967295) : 0 ≤ x * y ∧ x * y ≤ 18446744065119617025 :=
  ⟨Int.mul_nonneg hx hy, Int.mul_le_mul hx2 hy2 hy (by omega)⟩

theorem prods (a b : Nat) (ha : a < 18446744073709551616) (hb : b < 18446744073709551616) :
    0 ≤ (a : Int) / 4294967296 * ((b : Int) / 4294967296) ∧ (a : Int) / 4294967296 * ((b : Int) / 4294967296) ≤ 18446744065119617025
    ∧ 0 ≤ (a : Int) / 4294967296 * ((b : Int) % 4294967296) ∧ (a : Int) / 4294967296 * ((b : Int) % 4294967296) ≤ 18446744065119617025
    ∧ 0 ≤ (a : Int) % 4294967296 * ((b : Int) / 4294967296) ∧ (a : Int) % 4294967296 * ((b : Int) / 4294967296) ≤ 18446744065119617025
    ∧ 0 ≤ (a : Int) % 4294967296 * ((b : Int) % 4294967296) ∧ (a : Int) % 4294967296 * ((b : Int) % 4294967296) ≤ 18446744065119617025 := by
  have h1 := prod_in (x := (a : Int) / 4294967296) (y := (b : Int) / 4294967296) (by omega) (by omega) (by omega) (by omega)
  have h2 := prod_in (x := (a : Int) / 4294967296) (y := (b : Int) % 4294967296) (by omega) (by omega) (by omega) (by omega)
  have h3 := prod_in (x := (a : Int) % 4294967296) (y := (b : Int) / 4294967296) (by omega) (by omega) (by omega) (by omega)
  have h4 := prod_in (x := (a : Int) % 4294967296) (y := (b : Int) % 4294967296) (by omega) (by omega) (by omega) (by omega)
  exact ⟨h1.1, h1.2, h2.1, h2.2, h3.1, h3.2, h4.1, h4.2⟩

theorem c32 : ((4294967296 : Nat) : Int) = 4294967296 := rfl
theorem c64 : ((18446744073709551616 : Nat) : Int) = 18446744073709551616 := rfl
theorem wide_hiI (a b : Nat) :
    (a : Int) / 4294967296 * ((b : Int) / 4294967296) + ((a : Int) / 4294967296 * ((b : Int) % 4294967296) + (a : Int) % 4294967296 * ((b : Int) % 4294967296) / 4294967296) / 4294967296
      + ((a : Int) % 4294967296 * ((b : Int) / 4294967296) + ((a : Int) / 4294967296 * ((b : Int) % 4294967296) + (a : Int) % 4294967296 * ((b : Int) % 4294967296) / 4294967296) % 4294967296) / 4294967296
      = ((a * b / 18446744073709551616 : Nat) : Int) := by
  rw [← wide_hi]; simp only [Int.natCast_add, Int.natCast_mul, Int.natCast_ediv, Int.natCast_emod, c32]
theorem wide_loI (a b : Nat) :
    ((a : Int) % 4294967296 * ((b : Int) / 4294967296) + ((a : Int) / 4294967296 * ((b : Int) % 4294967296) + (a : Int) % 4294967296 * ((b : Int) % 4294967296) / 4294967296) % 4294967296) % 4294967296 * 4294967296
      + (a : Int) % 4294967296 * ((b : Int) % 4294967296) % 4294967296
      = ((a * b % 18446744073709551616 : Nat) : Int) := by
  rw [← wide_lo]; simp only [Int.natCast_add, Int.natCast_mul, Int.natCast_ediv, Int.natCast_emod, c32]

theorem ret_int {k : IntKind} {a b : Int} (h : a = b) : Ending.returned (.int k a) = .returned (.int k b) := by rw [h]
theorem ret_bool {a b : Bool} (h : a = b) : Ending.returned (.bool a) = .returned (.bool b) := by rw [h]
theorem ret_ints {k l : IntKind} {a b c d : Int} (h : a = b) (g : c = d) : Ending.returned (.tuple #[.int k a, .int l c]) = .returned (.tuple #[.int k b, .int l d]) := by rw [h, g]

theorem bitLen_spec (x : Nat) (h : x < 18446744073709551616) : x < 2 ^ Lib.bitLen x ∧ Lib.bitLen x ≤ 64 ∧ (x ≠ 0 → 1 ≤ Lib.bitLen x ∧ 2 ^ (Lib.bitLen x - 1) ≤ x) := by
  have hl : Lib.bitLen x ≤ 64 := Lib.bitLen_le x 64 (Nat.le_refl _) h
  by_cases h0 : x = 0
  · subst h0; exact ⟨by decide, hl, fun h => absurd rfl h⟩
  · obtain ⟨a, b, c⟩ := Lib.bitLenAux_bounds 64 x h h0
    exact ⟨c, hl, fun _ => ⟨a, b⟩⟩


theorem bit_wrap (k : Nat) (hk : k < 64) : IntKind.u64.wrap (2 ^ k : Int) = ((2 ^ k : Nat) : Int) := by
  have h := Nat.pow_lt_pow_right (a := 2) (by decide) hk
  have e : (2 ^ k : Int) = ((2 ^ k : Nat) : Int) := by simp
  rw [IntKind.wrap_u64, e]
  generalize 2 ^ k = p at *
  exact Int.emod_eq_of_lt (by omega) (by omega)
theorem or_bit {r k : Nat} (hk : k < 64) (hr : r % 2 ^ (k + 1) = 0) (hs : r + 2 ^ (k + 1) ≤ 2 ^ 64) :
    bits .or .u64 (r : Int) (IntKind.u64.wrap (2 ^ k : Int)) = ((r + 2 ^ k : Nat) : Int) := by
  have h := Nat.pow_lt_pow_right (a := 2) (by decide) hk
  have h2 : 0 < 2 ^ (k + 1) := Nat.two_pow_pos _
  rw [bit_wrap k hk, bits_or_u64_nat r (2 ^ k) (by omega) (by omega), root_or hr]

/-- How many bits a number of two words takes. -/
def plen (h l : Nat) : Nat := if h = 0 then Lib.bitLen l else 64 + Lib.bitLen h
theorem plen_spec (h l : Nat) (hh : h < 18446744073709551616) (hl : l < 18446744073709551616) : plen h l ≤ 128 ∧ h * 18446744073709551616 + l < 2 ^ plen h l := by
  obtain ⟨a1, a2, _⟩ := bitLen_spec h hh
  obtain ⟨b1, b2, _⟩ := bitLen_spec l hl
  unfold plen; split
  · rename_i h0; subst h0; exact ⟨by omega, by omega⟩
  · refine ⟨by omega, ?_⟩
    rw [Nat.pow_add]
    have := Nat.mul_le_mul_left (2 ^ 64) (Nat.succ_le_of_lt a1)
    have e : 2 ^ 64 * Nat.succ h = h * 18446744073709551616 + 18446744073709551616 := by omega
    omega

/-! ### A pair of words, shifted -/
theorem split_pow (s : Nat) (hs : s ≤ 64) : (2 : Nat) ^ (64 - s) * 2 ^ s = 18446744073709551616 := by rw [← Nat.pow_add, show 64 - s + s = 64 by omega]
theorem high_lt (l s : Nat) (hl : l < 18446744073709551616) (hs : s ≤ 64) : l / 2 ^ (64 - s) < 2 ^ s := by
  rw [Nat.div_lt_iff_lt_mul (Nat.two_pow_pos _), Nat.mul_comm, split_pow s hs]; exact hl
theorem shift_low (l s : Nat) (hs : s ≤ 64) : l * 2 ^ s % 18446744073709551616 = l % 2 ^ (64 - s) * 2 ^ s := by
  rw [← split_pow s hs, Nat.mul_mod_mul_right]
theorem shift_two (h l s : Nat) (hs : s ≤ 64) : (h * 2 ^ s + l / 2 ^ (64 - s)) * 18446744073709551616 + l * 2 ^ s % 18446744073709551616 = (h * 18446744073709551616 + l) * 2 ^ s := by
  have e := Nat.div_add_mod l (2 ^ (64 - s))
  rw [shift_low l s hs]
  generalize l / 2 ^ (64 - s) = x at *
  generalize hy : l % 2 ^ (64 - s) = y at *
  have h2 := split_pow s hs
  generalize 2 ^ (64 - s) = m at *
  generalize 2 ^ s = n at *
  subst e
  rw [← h2]; grind
theorem or_shift (h l s : Nat) (hs : s ≤ 63) (hl : l < 18446744073709551616) (hu : h * 2 ^ s + l / 2 ^ (64 - s) < 18446744073709551616) :
    bits .or .u64 (IntKind.u64.wrap ((h : Int) * 2 ^ s)) ((l : Int) / 2 ^ (64 - s)) = ((h * 2 ^ s + l / 2 ^ (64 - s) : Nat) : Int) := by
  have h1 := high_lt l s hl (by omega)
  have ej : h * 2 ^ s ||| l / 2 ^ (64 - s) = h * 2 ^ s + l / 2 ^ (64 - s) := nat_join s _ _ (Nat.mul_mod_left _ _) h1
  have hp := Nat.pow_lt_pow_right (a := 2) (by decide) (show s < 64 by omega)
  have ea : ((h : Int) * 2 ^ s) = ((h * 2 ^ s : Nat) : Int) := by simp
  have eb : ((l : Int) / 2 ^ (64 - s)) = ((l / 2 ^ (64 - s) : Nat) : Int) := by simp
  rw [ea, eb]
  clear ea eb
  generalize h * 2 ^ s = x at *
  generalize l / 2 ^ (64 - s) = z at *
  generalize 2 ^ s = m at *
  rw [IntWalk.u64_in _ (by omega), bits_or_u64_nat _ _ (by omega) (by omega), ej]
theorem shl_wrap (l s : Nat) : IntKind.u64.wrap ((l : Int) * 2 ^ s) = ((l * 2 ^ s % 18446744073709551616 : Nat) : Int) := by
  rw [show ((l : Int) * 2 ^ s) = ((l * 2 ^ s : Nat) : Int) by simp, IntKind.wrap_u64]; omega

theorem u64_quo (l y : Nat) (hl : l < 18446744073709551616) : IntKind.u64.wrap ((l : Int) / y) = ((l / y : Nat) : Int) := by
  have h := Nat.div_le_self l y
  rw [show ((l : Int) / y) = ((l / y : Nat) : Int) by simp]
  generalize l / y = x at *
  exact IntWalk.u64_in _ (by omega)
theorem u64_mul (a b : Nat) (h : a * b < 18446744073709551616) : IntKind.u64.wrap ((a : Int) * b) = ((a * b : Nat) : Int) := by
  rw [show ((a : Int) * b) = ((a * b : Nat) : Int) by simp]
  generalize a * b = x at *
  exact IntWalk.u64_in _ (by omega)

theorem tmod48 (n : Int) : ∃ m, n.tmod 281474976710656 = m ∧ -281474976710656 < m ∧ m < 281474976710656 ∧ (n - m) % 281474976710656 = 0 ∧ (0 ≤ n → 0 ≤ m) := by
  by_cases h : 0 ≤ n
  · exact ⟨n % 281474976710656, Int.tmod_eq_emod_of_nonneg h, by omega, by omega, by omega, fun _ => by omega⟩
  · obtain ⟨k, rfl⟩ : ∃ k, n = -k := ⟨-n, by omega⟩
    refine ⟨-(k % 281474976710656), ?_, by omega, by omega, by omega, fun h2 => absurd h2 h⟩
    rw [Int.neg_tmod, Int.tmod_eq_emod_of_nonneg (by omega)]
end Go.Proofs.YtbiglbclifbmhaaGreatDoor.M
