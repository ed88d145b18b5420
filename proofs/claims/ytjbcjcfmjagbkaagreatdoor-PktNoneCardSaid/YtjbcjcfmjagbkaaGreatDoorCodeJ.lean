/-
  The library's digits are the document's.
-/
import Derived.Test.YtjbcjcfmjagbkaaGreatDoorCodeI
import Derived.Lib.ItoaNum
namespace Go.Proofs.YtjbcjcfmjagbkaaGreatDoor
namespace M
theorem dg_lib : ∀ d : Fin 10, UInt8.ofNat (48 + d.val) = dg d.val := by decide +kernel
theorem dgs_dec : ∀ f n, n < 10 ^ f → 1 ≤ f → dgs 10 f n = Lib.decDigits n
  | 0, n, _, h => absurd h (by omega)
  | f + 1, n, hn, _ => by
    show (if n < 10 then [dg n] else dgs 10 f (n / 10) ++ [dg (n % 10)]) = _
    rw [Lib.decDigits]
    by_cases h : n < 10
    · rw [if_pos h, dif_pos h, dg_lib ⟨n, h⟩]
    · rw [if_neg h, dif_neg h, dg_lib ⟨n % 10, by omega⟩]
      have hd : n / 10 < 10 ^ f := by
        rw [Nat.pow_succ] at hn; exact (Nat.div_lt_iff_lt_mul (by omega)).2 hn
      have hf : 1 ≤ f := by
        cases f with
        | zero => rw [Nat.zero_add, Nat.pow_one] at hn; exact absurd hn h
        | succ f => omega
      rw [dgs_dec f (n / 10) hd hf]
theorem itoa_dgs (n : Nat) (hn : n < 4294967296) : Lib.itoa (n : Int) = dgs 10 10 n := by
  rw [dgs_dec 10 n (by omega) (by omega)]
  unfold Lib.itoa
  rw [if_neg (by omega)]
  rfl
end M
end Go.Proofs.YtjbcjcfmjagbkaaGreatDoor
