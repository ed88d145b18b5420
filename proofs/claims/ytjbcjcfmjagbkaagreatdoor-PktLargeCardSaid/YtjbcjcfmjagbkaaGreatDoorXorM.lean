/-
  Two bytes, the one over the other.
-/
import Derived.Test.YtjbcjcfmjagbkaaGreatDoorSumMath
namespace Go.Proofs.YtjbcjcfmjagbkaaGreatDoor
open Go
theorem xor_u8 (a j : Nat) (ha : a < 256) (hj : j < 256) : bits .xor .u8 (a : Int) (j : Int) = ((a ^^^ j : Nat) : Int) ∧ (a ^^^ j) < 256 ∧ (0 < j → a ^^^ j ≠ a) := by
  have hx : a ^^^ j < 2 ^ 8 := Nat.xor_lt_two_pow ha hj
  refine ⟨?_, hx, fun h e => ?_⟩
  · show IntKind.u8.wrap ((BitVec.ofInt 8 (a : Int) ^^^ BitVec.ofInt 8 (j : Int)).toNat : Int) = _
    have h1 : ∀ x : Nat, x < 256 → (BitVec.ofInt 8 (x : Int)).toNat = x := fun x hx => by
      rw [BitVec.ofInt_natCast, BitVec.toNat_ofNat]; exact Nat.mod_eq_of_lt (by omega)
    rw [BitVec.toNat_xor, h1 a ha, h1 j hj, IntKind.wrap_u8]
    omega
  · have : j = 0 := by
      have h2 : a ^^^ (a ^^^ j) = a ^^^ a := by rw [e]
      rw [← Nat.xor_assoc, Nat.xor_self, Nat.zero_xor] at h2
      exact h2
    omega
end Go.Proofs.YtjbcjcfmjagbkaaGreatDoor
