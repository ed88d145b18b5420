/-
  Numbers written to a base, and read again.
-/
import Derived.Test.YtjbcjcfmjagbkaaGreatDoorCodeF
namespace Go.Proofs.YtjbcjcfmjagbkaaGreatDoor
namespace M
/-- The sign of a digit. -/
def dg (d : Nat) : UInt8 := if d < 10 then (48 + d).toUInt8 else (87 + d).toUInt8
theorem dg_digit : ∀ d : Fin 16, digitR (dg d.val).toNat = some d.val := by decide +kernel
theorem dg_zero : ∀ d : Fin 16, (dg d.val).toNat = 48 → d.val = 0 := by decide +kernel
theorem dg_x : ∀ d : Fin 16, (dg d.val).toNat ≠ 120 ∧ (dg d.val).toNat ≠ 88 := by decide +kernel
/-- A number's digits, at most so many. -/
def dgs (b : Nat) : Nat → Nat → List UInt8
  | 0, _ => []
  | f + 1, n => if n < b then [dg n] else dgs b f (n / b) ++ [dg (n % b)]
theorem numB_one (b m n : Nat) (hb : b ≤ 16) (hn : n < b) : numB b m [dg n] = some (m * b + n) := by
  show (match digitR (dg n).toNat with | none => none | some d => if b ≤ d then none else some (m * b + d)) = _
  rw [dg_digit ⟨n, by omega⟩]
  show (if b ≤ n then none else some (m * b + n)) = _
  rw [if_neg (by omega)]
theorem numB_dgs (b : Nat) (h2 : 2 ≤ b) (hb : b ≤ 16) : ∀ f n, n < b ^ f → 1 ≤ f → numB b 0 (dgs b f n) = some n
  | 0, n, _, h => absurd h (by omega)
  | f + 1, n, hn, _ => by
    show numB b 0 (if n < b then [dg n] else dgs b f (n / b) ++ [dg (n % b)]) = some n
    by_cases h : n < b
    · rw [if_pos h, numB_one b 0 n hb h]; simp
    · rw [if_neg h, numB_append]
      have hd : n / b < b ^ f := by
        rw [Nat.div_lt_iff_lt_mul (by omega)]
        rw [Nat.pow_succ] at hn; exact hn
      have hf : 1 ≤ f := by
        cases f with
        | zero => rw [Nat.zero_add, Nat.pow_one] at hn; exact absurd hn h
        | succ f => omega
      rw [numB_dgs b h2 hb f (n / b) hd hf]
      show numB b (n / b) [dg (n % b)] = some n
      rw [numB_one b (n / b) (n % b) hb (Nat.mod_lt _ (by omega)), Nat.mul_comm, Nat.div_add_mod]
theorem dgs_len (b : Nat) : ∀ f n, (dgs b f n).length ≤ f
  | 0, n => Nat.le_refl _
  | f + 1, n => by
    show (if n < b then [dg n] else dgs b f (n / b) ++ [dg (n % b)]).length ≤ f + 1
    by_cases h : n < b
    · rw [if_pos h]; simp
    · rw [if_neg h, List.length_append]
      have := dgs_len b f (n / b)
      simp; omega
theorem dgs_ne (b f n : Nat) (hf : 1 ≤ f) : dgs b f n ≠ [] := by
  cases f with
  | zero => omega
  | succ f =>
    show (if n < b then [dg n] else dgs b f (n / b) ++ [dg (n % b)]) ≠ []
    by_cases h : n < b
    · rw [if_pos h]; simp
    · rw [if_neg h]; simp
/-- The first digit is no nought, but of nought alone; and it is no x. -/
theorem dgs_head (b : Nat) (h2 : 2 ≤ b) (hb : b ≤ 16) : ∀ f n, n < b ^ f → 1 ≤ f → ∃ d t, dgs b f n = dg d :: t ∧ d < b ∧ (d = 0 → n = 0 ∧ t = [])
  | 0, n, _, h => absurd h (by omega)
  | f + 1, n, hn, _ => by
    show ∃ d t, (if n < b then [dg n] else dgs b f (n / b) ++ [dg (n % b)]) = dg d :: t ∧ d < b ∧ (d = 0 → n = 0 ∧ t = [])
    by_cases h : n < b
    · rw [if_pos h]; exact ⟨n, [], rfl, h, fun e => ⟨e, rfl⟩⟩
    · rw [if_neg h]
      have hd : n / b < b ^ f := by
        rw [Nat.div_lt_iff_lt_mul (by omega)]
        rw [Nat.pow_succ] at hn; exact hn
      have hf : 1 ≤ f := by
        cases f with
        | zero => rw [Nat.zero_add, Nat.pow_one] at hn; exact absurd hn h
        | succ f => omega
      obtain ⟨d, t, e, hdb, h0⟩ := dgs_head b h2 hb f (n / b) hd hf
      refine ⟨d, t ++ [dg (n % b)], by rw [e]; rfl, hdb, fun e0 => ?_⟩
      have h1 := (h0 e0).1
      have h3 : 1 ≤ n / b := (Nat.le_div_iff_mul_le (by omega)).2 (by omega)
      omega
/-- A number's text to base ten names the number; the greatest of all names none. -/
theorem numC_dec (n : Nat) (hn : n < 4294967296) : numC (dgs 10 10 n) = if n = 4294967295 then none else some n := by
  obtain ⟨d, t, e, hdb, h0⟩ := dgs_head 10 (by omega) (by omega) 10 n (by omega) (by omega)
  have hx := dg_x ⟨d, by omega⟩
  have hl := dgs_len 10 10 n
  have hv := numB_dgs 10 (by omega) (by omega) 10 n (by omega) (by omega)
  rw [e] at hl hv ⊢
  show (if (dg d).toNat = 120 ∨ (dg d).toNat = 88 then ofDig 16 8 t else if (dg d).toNat = 48 ∧ t ≠ [] then none else ofDig 10 10 (dg d :: t)) = _
  rw [if_neg (by intro h; exact h.elim hx.1 hx.2), if_neg (by
    intro hh
    exact hh.2 (h0 (dg_zero ⟨d, by omega⟩ hh.1)).2), ofDig_bytes, hv, if_neg (by simp only [List.cons_ne_nil, false_or]; omega)]
  show (if 4294967295 ≤ n then none else some n) = _
  by_cases hq : n = 4294967295
  · rw [if_pos (by omega), if_pos hq]
  · rw [if_neg (by omega), if_neg hq]
/-- And to base sixteen, behind an x. -/
theorem numC_hex (x : UInt8) (hx : x.toNat = 120 ∨ x.toNat = 88) (n : Nat) (hn : n < 4294967296) : numC (x :: dgs 16 8 n) = if n = 4294967295 then none else some n := by
  have hl := dgs_len 16 8 n
  have hne := dgs_ne 16 8 n (by omega)
  have hv := numB_dgs 16 (by omega) (by omega) 8 n (by omega) (by omega)
  show (if x.toNat = 120 ∨ x.toNat = 88 then ofDig 16 8 (dgs 16 8 n) else _) = _
  rw [if_pos hx, ofDig_bytes, hv, if_neg (by simp only [hne, false_or]; omega)]
  show (if 4294967295 ≤ n then none else some n) = _
  by_cases hq : n = 4294967295
  · rw [if_pos (by omega), if_pos hq]
  · rw [if_neg (by omega), if_neg hq]
theorem serv_num (t : List UInt8) : serv (sSN ++ t) = numC t := by
  unfold serv
  rw [if_neg (by show ¬ (List.isPrefixOf sSC (sSN ++ t) = true); simp [sSC, sSN]), if_pos (by show List.isPrefixOf sSN (sSN ++ t) = true; simp [sSN])]
  unfold Lib.trimPrefix
  rw [if_pos (by show List.isPrefixOf sSN (sSN ++ t) = true; simp [sSN])]
  rfl
theorem serv_sgn (t : List UInt8) : serv (sSC ++ t) = ofSgn t := by
  unfold serv
  rw [if_pos (by show List.isPrefixOf sSC (sSC ++ t) = true; simp [sSC])]
  unfold Lib.trimPrefix
  rw [if_pos (by show List.isPrefixOf sSC (sSC ++ t) = true; simp [sSC])]
  rfl
end M
end Go.Proofs.YtjbcjcfmjagbkaaGreatDoor
