/-
  Texts by runes: plain.
-/
import Derived.Lib.MapLaws
import Derived.Lib.RuneBytes
namespace Go.Proofs.YtjbcjcfmjagbkaaGreatDoor
open Go Go.Lib
set_option linter.unusedVariables false
namespace M

/-- The runes of bytes, as range tells them. -/
def runesF : Nat → List UInt8 → List Nat
  | 0, _ => []
  | n + 1, l => if l = [] then [] else (decodeL l).1 :: runesF n (l.drop (decodeL l).2)
def runes (l : List UInt8) : List Nat := runesF l.length l

theorem runesF_nil : ∀ n, runesF n [] = []
  | 0 => rfl
  | _ + 1 => by simp [runesF]
theorem decode_wide (l : List UInt8) (hne : l ≠ []) : 1 ≤ (decodeL l).2 ∧ (decodeL l).2 ≤ l.length := ⟨decodeL_width l, decodeL_le l hne⟩
theorem runesF_fuel : ∀ (n m : Nat) (l : List UInt8), l.length ≤ n → l.length ≤ m → runesF n l = runesF m l
  | 0, m, l, hn, _ => by
    have : l = [] := List.eq_nil_of_length_eq_zero (by omega)
    subst this
    rw [runesF_nil, runesF_nil]
  | n + 1, 0, l, _, hm => by
    have : l = [] := List.eq_nil_of_length_eq_zero (by omega)
    subst this
    rw [runesF_nil, runesF_nil]
  | n + 1, m + 1, l, hn, hm => by
    by_cases hne : l = []
    · subst hne
      rw [runesF_nil, runesF_nil]
    · have hw := decode_wide l hne
      simp only [runesF, if_neg hne]
      rw [runesF_fuel n m _ (by rw [List.length_drop]; omega) (by rw [List.length_drop]; omega)]
theorem runes_nil : runes [] = [] := rfl
theorem runes_step (l : List UInt8) (hne : l ≠ []) : runes l = (decodeL l).1 :: runes (l.drop (decodeL l).2) := by
  have hw := decode_wide l hne
  have hl : 0 < l.length := List.length_pos_iff.2 hne
  unfold runes
  obtain ⟨n, hn⟩ : ∃ n, l.length = n + 1 := ⟨l.length - 1, by omega⟩
  rw [hn]
  simp only [runesF, if_neg hne]
  rw [runesF_fuel n _ _ (by rw [List.length_drop]; omega) (Nat.le_refl _)]

/-- A rune that range may tell. -/
def okRune (r : Nat) : Prop := r < 55296 ∨ 57344 ≤ r ∧ r ≤ 1114111
theorem decode_ok (l : List UInt8) : okRune (decodeL l).1 := by
  rw [decodeL_N]
  have k0 := (l.getD 0 0).toNat_lt
  unfold okRune
  rcases decodeN_shape l.length (l.getD 0 0).toNat (l.getD 1 0).toNat (l.getD 2 0).toNat (l.getD 3 0).toNat with ⟨c, e⟩ | ⟨c1, c2, c3, cv, e⟩ | ⟨c1, c2, c3, c4, cv, cs, e⟩ | ⟨c1, c2, c3, c4, c5, cv, cw, e⟩ | e
  all_goals (rw [e]; dsimp only; omega)
theorem runesF_ok : ∀ (n : Nat) (l : List UInt8), ∀ r ∈ runesF n l, okRune r
  | 0, _, r, h => by simp [runesF] at h
  | n + 1, l, r, h => by
    unfold runesF at h
    split at h
    · cases h
    · rcases List.mem_cons.1 h with rfl | h
      · exact decode_ok l
      · exact runesF_ok n _ r h
theorem runes_ok (l : List UInt8) : ∀ r ∈ runes l, okRune r := runesF_ok _ l
theorem runesF_len : ∀ (n : Nat) (l : List UInt8), (runesF n l).length ≤ n
  | 0, _ => by simp [runesF]
  | n + 1, l => by
    unfold runesF
    split
    · simp
    · have := runesF_len n (l.drop (decodeL l).2)
      simp; omega
theorem runes_len (l : List UInt8) : (runes l).length ≤ l.length := runesF_len _ l

/-- A rune as bytes. -/
def enc (r : Nat) : List UInt8 := encodeRune (r : Int)
theorem byteZ (z : Int) (h0 : 0 ≤ z) (h1 : z < 256) : (z.toNat.toUInt8).toNat = z.toNat := by
  simp; omega
set_option maxHeartbeats 1000000 in
theorem decode_enc (r : Nat) (h : okRune r) (t : List UInt8) : decodeL (enc r ++ t) = (r, (enc r).length) := by
  rw [decodeL_N]
  unfold okRune at h
  unfold enc encodeRune
  by_cases c1 : r < 128
  · rw [encodeRuneZ_one (by omega) (by omega)]
    have b0 := byteZ (r : Int) (by omega) (by omega)
    simp only [List.map_cons, List.map_nil, List.cons_append, List.nil_append, List.getD_cons_zero, List.length_cons, List.length_nil, b0]
    unfold decodeN
    rw [if_pos (by omega)]
    simp
  · by_cases c2 : r < 2048
    · rw [encodeRuneZ_two (by omega) (by omega)]
      have b0 := byteZ (192 + (r : Int) / 64) (by omega) (by omega)
      have b1 := byteZ (128 + (r : Int) % 64) (by omega) (by omega)
      simp only [List.map_cons, List.map_nil, List.cons_append, List.nil_append, List.getD_cons_zero, List.getD_cons_succ, List.length_cons, List.length_nil, b0, b1]
      unfold decodeN
      rw [if_neg (by omega), if_pos (by omega), if_pos (by omega)]
      apply Prod.ext <;> simp only <;> omega
    · by_cases c3 : r < 65536
      · rw [encodeRuneZ_three (by omega)]
        have b0 := byteZ (224 + (r : Int) / 4096) (by omega) (by omega)
        have b1 := byteZ (128 + (r : Int) / 64 % 64) (by omega) (by omega)
        have b2 := byteZ (128 + (r : Int) % 64) (by omega) (by omega)
        simp only [List.map_cons, List.map_nil, List.cons_append, List.nil_append, List.getD_cons_zero, List.getD_cons_succ, List.length_cons, List.length_nil, b0, b1, b2]
        unfold decodeN
        rw [if_neg (by omega), if_neg (by omega), if_pos (by omega), if_pos (by omega)]
        apply Prod.ext <;> simp only <;> omega
      · rw [encodeRuneZ_four (by omega) (by omega)]
        have b0 := byteZ (240 + (r : Int) / 262144) (by omega) (by omega)
        have b1 := byteZ (128 + (r : Int) / 4096 % 64) (by omega) (by omega)
        have b2 := byteZ (128 + (r : Int) / 64 % 64) (by omega) (by omega)
        have b3 := byteZ (128 + (r : Int) % 64) (by omega) (by omega)
        simp only [List.map_cons, List.map_nil, List.cons_append, List.nil_append, List.getD_cons_zero, List.getD_cons_succ, List.length_cons, List.length_nil, b0, b1, b2, b3]
        unfold decodeN
        rw [if_neg (by omega), if_neg (by omega), if_neg (by omega), if_pos (by omega), if_pos (by omega)]
        apply Prod.ext <;> simp only <;> omega
theorem enc_len (r : Nat) : 1 ≤ (enc r).length ∧ (enc r).length ≤ 4 := by
  unfold enc encodeRune
  rw [List.length_map]
  exact encodeRuneZ_length _
/-- Runes that are written are read. -/
def encs (rs : List Nat) : List UInt8 := rs.flatMap enc
theorem runes_encs : ∀ rs : List Nat, (∀ r ∈ rs, okRune r) → runes (encs rs) = rs
  | [], _ => rfl
  | r :: rs, h => by
    have e : encs (r :: rs) = enc r ++ encs rs := by simp [encs]
    have hl := enc_len r
    have hne : enc r ++ encs rs ≠ [] := by
      intro hh
      have := congrArg List.length hh
      rw [List.length_append, List.length_nil] at this; omega
    rw [e, runes_step _ hne, decode_enc r (h r (by simp))]
    dsimp only
    rw [List.drop_left, runes_encs rs (fun x hx => h x (by simp [hx]))]
theorem encs_len (rs : List Nat) : (encs rs).length ≤ 4 * rs.length := by
  induction rs with
  | nil => simp [encs]
  | cons r rs ih =>
    have e : encs (r :: rs) = enc r ++ encs rs := by simp [encs]
    have := enc_len r
    rw [e, List.length_append, List.length_cons]; omega
theorem encs_append (a b : List Nat) : encs (a ++ b) = encs a ++ encs b := by simp [encs]

/-- What stands for a rune where a person reads it. -/
def shown (r : Nat) : Nat := if r < 32 ∨ r = 127 then 32 else r
theorem shown_ok {r : Nat} (h : okRune r) : okRune (shown r) := by
  unfold shown okRune at *; split <;> omega
theorem shown_seen (r : Nat) : 32 ≤ shown r ∧ shown r ≠ 127 := by unfold shown; split <;> omega
theorem shown_twice (r : Nat) : shown (shown r) = shown r := by
  have := shown_seen r
  generalize shown r = x at *
  unfold shown; rw [if_neg (by omega)]
/-- What a person may read of a text. -/
def reason (l : List UInt8) (most : Nat) : List UInt8 := encs (((runes l).take most).map shown)
theorem runes_reason (l : List UInt8) (most : Nat) : runes (reason l most) = ((runes l).take most).map shown := by
  refine runes_encs _ (fun r hr => ?_)
  obtain ⟨x, hx, rfl⟩ := List.mem_map.1 hr
  exact shown_ok (runes_ok l x (List.mem_of_mem_take hx))
theorem reason_twice (l : List UInt8) (most m : Nat) (hm : (runes l).length ≤ m) : reason (reason l most) m = reason l most := by
  unfold reason
  have e := runes_reason l most
  unfold reason at e
  rw [e, List.take_of_length_le (by rw [List.length_map, List.length_take]; omega), List.map_map]
  congr 1
  apply List.map_congr_left
  intro x _
  exact shown_twice x
/-- The kinds of runes. -/
def isLet (r : Nat) : Bool := decide (65 ≤ r ∧ r ≤ 90 ∨ 97 ≤ r ∧ r ≤ 122)
def isDig (r : Nat) : Bool := decide (48 ≤ r ∧ r ≤ 57)
def lets (rs : List Nat) : Nat := rs.countP isLet
def digs (rs : List Nat) : Nat := rs.countP fun r => !isLet r && isDig r
def othr (rs : List Nat) : Nat := rs.countP fun r => !isLet r && !isDig r
theorem kinds_all (rs : List Nat) : lets rs + digs rs + othr rs = rs.length := by
  unfold lets digs othr
  induction rs with
  | nil => rfl
  | cons r rs ih =>
    simp only [List.countP_cons, List.length_cons]
    cases isLet r <;> cases isDig r <;> simp <;> omega
end M
end Go.Proofs.YtjbcjcfmjagbkaaGreatDoor
