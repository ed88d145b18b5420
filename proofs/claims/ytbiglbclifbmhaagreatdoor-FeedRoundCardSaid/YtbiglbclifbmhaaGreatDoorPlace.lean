/-
  Places within a number: what 'x % m', and '(x % m + m) % m', are. Nothing of the program is named here.
-/
namespace Go.Proofs.YtbiglbclifbmhaaGreatDoor
theorem mod_at (x m : Int) (hm : 0 < m) : ∃ a, x.tmod m = a ∧ -m < a ∧ a < m ∧ ∃ j : Nat, (a + m).tmod m = (j : Int) ∧ (j : Int) < m := by
  refine ⟨x.tmod m, rfl, ?_⟩
  have h : -m < x.tmod m ∧ x.tmod m < m := by
    by_cases h : 0 ≤ x
    · rw [Int.tmod_eq_emod_of_nonneg h]
      have := Int.emod_nonneg x (show m ≠ 0 by omega)
      have := Int.emod_lt_of_pos x hm
      omega
    · have e : x.tmod m = -((-x).tmod m) := by rw [Int.neg_tmod]; omega
      rw [e, Int.tmod_eq_emod_of_nonneg (by omega)]
      have := Int.emod_nonneg (-x) (show m ≠ 0 by omega)
      have := Int.emod_lt_of_pos (-x) hm
      omega
  refine ⟨h.1, h.2, ((x.tmod m + m).tmod m).toNat, ?_, ?_⟩
  · have : 0 ≤ (x.tmod m + m).tmod m := Int.tmod_nonneg _ (by omega)
    omega
  · have h1 : 0 ≤ (x.tmod m + m).tmod m := Int.tmod_nonneg _ (by omega)
    have h2 : (x.tmod m + m).tmod m < m := by rw [Int.tmod_eq_emod_of_nonneg (by omega)]; exact Int.emod_lt_of_pos _ hm
    omega
theorem mxs (a b c : Nat) (h : max a b = c) : (if (a : Int) < (b : Int) then (b : Int) else (a : Int)) = (c : Int) ∧ (if a < b then (b : Int) else (a : Int)) = (c : Int) ∧ max (a : Int) (b : Int) = (c : Int) ∧ (c = a ∨ c = b) ∧ a ≤ c ∧ b ≤ c := ⟨by split <;> omega, by split <;> omega, by omega, by omega, by omega, by omega⟩
theorem mns (a b c : Nat) (h : min a b = c) : (if (b : Int) < (a : Int) then (b : Int) else (a : Int)) = (c : Int) ∧ (if b < a then (b : Int) else (a : Int)) = (c : Int) ∧ min (a : Int) (b : Int) = (c : Int) ∧ (c = a ∨ c = b) ∧ c ≤ a ∧ c ≤ b := ⟨by split <;> omega, by split <;> omega, by omega, by omega, by omega, by omega⟩
theorem mxi (a b c : Int) (h : max a b = c) : (if a < b then b else a) = c ∧ max a b = c ∧ a ≤ c ∧ b ≤ c ∧ (c = a ∨ c = b) := ⟨by split <;> omega, h, by omega, by omega, by omega⟩
theorem mni (a b c : Int) (h : min a b = c) : (if b < a then b else a) = c ∧ min a b = c ∧ c ≤ a ∧ c ≤ b ∧ (c = a ∨ c = b) := ⟨by split <;> omega, h, by omega, by omega, by omega⟩
end Go.Proofs.YtbiglbclifbmhaaGreatDoor
