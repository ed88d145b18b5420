/-
  Sums of bytes: noughts, a byte that turns, words that change places.
-/
import Derived.Test.YtcdhllajdpalaaaGreatDoorSumMath
namespace Go.Proofs.YtcdhllajdpalaaaGreatDoor.M
open Go
set_option linter.unusedSimpArgs false

theorem wsum_zeros (n : Nat) : ∀ e, wsum e (List.replicate n (0 : UInt8)) = 0 := by
  induction n with
  | zero => intro e; rfl
  | succ n ih => intro e; rw [List.replicate_succ]; simp [wsum, ih]
theorem sum_zeros_end (l : List UInt8) (n : Nat) : sum16 (l ++ List.replicate n 0) = sum16 l := by
  unfold sum16; rw [wsum_append, wsum_zeros, Nat.add_zero]
theorem par_twice (n : Nat) : par (par true n) n = true := by unfold par; split <;> simp_all
theorem sum_zeros_front (l : List UInt8) (n : Nat) : sum16 (List.replicate n 0 ++ (List.replicate n 0 ++ l)) = sum16 l := by
  unfold sum16
  rw [wsum_append, wsum_append, wsum_zeros, wsum_zeros, List.length_replicate, par_twice]
  simp

/-- What a byte at p weighs. -/
def wtE (e : Bool) (p : Nat) : Nat := if par e p = true then 256 else 1
theorem wsum_set (l : List UInt8) : ∀ (e : Bool) (p : Nat) (v : UInt8), p < l.length → wsum e (l.set p v) + wtE e p * (l.getD p 0).toNat = wsum e l + wtE e p * v.toNat := by
  induction l with
  | nil => intro e p v h; simp at h
  | cons b l ih =>
    intro e p v h
    cases p with
    | zero =>
      simp only [List.set_cons_zero, wsum, List.getD_cons_zero, wtE, par]
      cases e <;> simp <;> omega
    | succ p =>
      have h2 := ih (!e) p v (by simpa using h)
      simp only [List.set_cons_succ, wsum, List.getD_cons_succ]
      unfold wtE at h2 ⊢
      rw [← par_succ]
      omega

theorem flip_fin : ∀ a : Fin 256, ∀ k : Fin 8, bits .xor .u8 (a.val : Int) ((2 ^ k.val : Nat) : Int) = ((a.val ^^^ 2 ^ k.val : Nat) : Int) ∧ (a.val ^^^ 2 ^ k.val) < 256 ∧ ((a.val ^^^ 2 ^ k.val) = a.val + 2 ^ k.val ∨ a.val = (a.val ^^^ 2 ^ k.val) + 2 ^ k.val) := by decide +kernel
theorem flip_byte (a k : Nat) (ha : a < 256) (hk : k < 8) : bits .xor .u8 (a : Int) ((2 ^ k : Nat) : Int) = ((a ^^^ 2 ^ k : Nat) : Int) ∧ (a ^^^ 2 ^ k) < 256 ∧ ((a ^^^ 2 ^ k) = a + 2 ^ k ∨ a = (a ^^^ 2 ^ k) + 2 ^ k) := flip_fin ⟨a, ha⟩ ⟨k, hk⟩

/-- One bit that is turned turns the sum. -/
theorem sum_bit (l : List UInt8) (p k : Nat) (b : UInt8) (hp : p < l.length) (hk : k < 8) (hb : b.toNat = (l.getD p 0).toNat ^^^ 2 ^ k) : sum16 l ≠ sum16 (l.set p b) ∧ (sum16 l ≠ 0 ∨ sum16 (l.set p b) ≠ 65535) := by
  have hs := wsum_set l true p b hp
  obtain ⟨_, _, hf⟩ := flip_byte (l.getD p 0).toNat k (l.getD p 0).toNat_lt hk
  rw [← hb] at hf
  have hpow : 1 ≤ 2 ^ k ∧ 2 ^ k ≤ 128 := by
    have h1 := Nat.pow_le_pow_right (n := 2) (by decide) (show k ≤ 7 by omega)
    have h0 : 0 < 2 ^ k := Nat.pow_pos (by decide)
    exact ⟨h0, h1⟩
  generalize 2 ^ k = d at *
  generalize (l.getD p 0).toNat = x at *
  generalize b.toNat = y at *
  unfold sum16
  generalize wsum true l = m at *
  generalize wsum true (l.set p b) = m2 at *
  have hw : wtE true p = 256 ∨ wtE true p = 1 := by unfold wtE; split <;> simp
  unfold fold16
  rcases hw with hw | hw <;> rw [hw] at hs
  · constructor
    · split <;> split <;> omega
    · split <;> split <;> omega
  · constructor
    · split <;> split <;> omega
    · split <;> split <;> omega

theorem getD_set (l : List UInt8) (p q : Nat) (v : UInt8) (hp : p < l.length) : (l.set p v).getD q 0 = if p = q then v else l.getD q 0 := by
  simp only [List.getD_eq_getElem?_getD, List.getElem?_set]
  split
  · rename_i h; subst h; simp [hp]
  · rfl

/-- Words that change places. -/
def swapW (l : List UInt8) (i j : Nat) : List UInt8 :=
  (((l.set (2 * i) (l.getD (2 * j) 0)).set (2 * j) (l.getD (2 * i) 0)).set (2 * i + 1) (l.getD (2 * j + 1) 0)).set (2 * j + 1) (l.getD (2 * i + 1) 0)
theorem wsum_swap (l : List UInt8) (i j : Nat) (hi : 2 * i + 1 < l.length) (hj : 2 * j + 1 < l.length) : wsum true (swapW l i j) = wsum true l := by
  have e1 : ∀ n, wtE true (2 * n) = 256 := fun n => by unfold wtE par; rw [if_pos (show 2 * n % 2 = 0 by omega)]; rfl
  have e2 : ∀ n, wtE true (2 * n + 1) = 1 := fun n => by unfold wtE par; rw [if_neg (show ¬ (2 * n + 1) % 2 = 0 by omega)]; rfl
  have h1 := wsum_set l true (2 * i) (l.getD (2 * j) 0) (by omega)
  have h2 := wsum_set (l.set (2 * i) (l.getD (2 * j) 0)) true (2 * j) (l.getD (2 * i) 0) (by simp; omega)
  rw [getD_set _ _ _ _ (by omega)] at h2
  have h3 := wsum_set ((l.set (2 * i) (l.getD (2 * j) 0)).set (2 * j) (l.getD (2 * i) 0)) true (2 * i + 1) (l.getD (2 * j + 1) 0) (by simp; omega)
  rw [getD_set _ _ _ _ (by simp; omega), if_neg (by omega), getD_set _ _ _ _ (by omega), if_neg (by omega)] at h3
  have h4 := wsum_set (((l.set (2 * i) (l.getD (2 * j) 0)).set (2 * j) (l.getD (2 * i) 0)).set (2 * i + 1) (l.getD (2 * j + 1) 0)) true (2 * j + 1) (l.getD (2 * i + 1) 0) (by simp; omega)
  rw [getD_set _ _ _ _ (by simp; omega), getD_set _ _ _ _ (by simp; omega), if_neg (show ¬ 2 * j = 2 * j + 1 by omega), getD_set _ _ _ _ (by omega), if_neg (show ¬ 2 * i = 2 * j + 1 by omega)] at h4
  have h2' : (if 2 * i = 2 * j then l.getD (2 * j) 0 else l.getD (2 * j) 0) = l.getD (2 * j) 0 := by split <;> rfl
  have h4' : (if 2 * i + 1 = 2 * j + 1 then l.getD (2 * j + 1) 0 else l.getD (2 * j + 1) 0) = l.getD (2 * j + 1) 0 := by split <;> rfl
  rw [h2'] at h2
  rw [h4'] at h4
  rw [e1] at h1 h2
  rw [e2] at h3 h4
  unfold swapW
  omega
theorem sum_swap (l : List UInt8) (i j : Nat) (hi : 2 * i + 1 < l.length) (hj : 2 * j + 1 < l.length) : sum16 (swapW l i j) = sum16 l := by unfold sum16; rw [wsum_swap l i j hi hj]
theorem swap_len (l : List UInt8) (i j : Nat) : (swapW l i j).length = l.length := by unfold swapW; simp

/-- What is its own sum fits; a word of all ones is as none, unless all are noughts. -/
theorem fits_own (l : List UInt8) : fold16 (wsum true l + sum16 l) = 65535 := by
  unfold sum16
  generalize wsum true l = m
  by_cases h : m = 0
  · subst h; decide
  · have e : fold16 m = (m - 1) % 65535 + 1 := by unfold fold16; rw [if_neg h]
    rw [e]
    unfold fold16
    rw [if_neg (by omega)]
    omega
theorem sum_ones (l : List UInt8) (h : l.length % 2 = 0) : sum16 l = 65535 ∨ sum16 (l ++ [255, 255]) = sum16 l := by
  unfold sum16
  rw [wsum_append]
  have e : wsum (par true l.length) [255, 255] = 65535 := by unfold par; rw [if_pos h]; rfl
  rw [e]
  generalize wsum true l = m
  unfold fold16
  split <;> split <;> omega
end Go.Proofs.YtcdhllajdpalaaaGreatDoor.M
