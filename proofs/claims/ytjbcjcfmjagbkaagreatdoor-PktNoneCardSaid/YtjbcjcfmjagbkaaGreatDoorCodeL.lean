/-
  How a code is written, by its bytes; the document's reading of one.
-/
import Derived.Test.YtjbcjcfmjagbkaaGreatDoorCodeK
import Derived.Lib.TrimByte
namespace Go.Proofs.YtjbcjcfmjagbkaaGreatDoor
open Go
set_option linter.unusedVariables false
namespace M
/-- A number by its bytes, from c on. -/
def bigF : Nat → List UInt8 → Nat
  | c, [] => c
  | c, b :: t => bigF (c * 256 + b.toNat) t
theorem bigF_append : ∀ (a t : List UInt8) (c : Nat), bigF c (a ++ t) = bigF (bigF c a) t
  | [], t, c => rfl
  | x :: a, t, c => bigF_append a t _
theorem sgnB_big : ∀ (l : List UInt8) (c x : Nat), sgnB c l = some x → x = bigF c l ∧ ∀ b ∈ l, isSgn b.toNat = true
  | [], c, x, h => by
    cases h; exact ⟨rfl, by simp⟩
  | b :: t, c, x, h => by
    have h2 : (if isSgn b.toNat = true then sgnB (c * 256 + b.toNat) t else none) = some x := h
    by_cases hb : isSgn b.toNat = true
    · rw [if_pos hb] at h2
      obtain ⟨e1, e2⟩ := sgnB_big t _ x h2
      refine ⟨e1, fun y hy => ?_⟩
      rcases List.mem_cons.1 hy with rfl | hy
      · exact hb
      · exact e2 y hy
    · rw [if_neg hb] at h2; cases h2
theorem sgnB_all : ∀ (l : List UInt8) (c : Nat), (∀ b ∈ l, isSgn b.toNat = true) → sgnB c l = some (bigF c l)
  | [], c, h => rfl
  | b :: t, c, h => by
    show (if isSgn b.toNat = true then sgnB (c * 256 + b.toNat) t else none) = _
    rw [if_pos (h b (by simp)), sgnB_all t _ (fun x hx => h x (by simp [hx]))]
    rfl
theorem padC_big : ∀ (k c : Nat), padC k c = bigF c (List.replicate k 32)
  | 0, c => rfl
  | k + 1, c => by
    show padC k (c * 256 + 32) = _
    rw [padC_big k, List.replicate_succ]; rfl
theorem bigF_be : ∀ (k n c : Nat), bigF c (beBytes k n) = c * 256 ^ k + n % 256 ^ k
  | 0, n, c => by simp [beBytes, bigF, Nat.mod_one]
  | k + 1, n, c => by
    show bigF (c * 256 + (UInt8.ofNat (n / 256 ^ k % 256)).toNat) (beBytes k n) = _
    have e : (UInt8.ofNat (n / 256 ^ k % 256)).toNat = n / 256 ^ k % 256 := by simp
    rw [e, bigF_be k n]
    have h2 : n % 256 ^ (k + 1) = n % 256 ^ k + 256 ^ k * (n / 256 ^ k % 256) := by
      rw [Nat.pow_succ, Nat.mod_mul]
    rw [h2, Nat.pow_succ, Nat.add_mul, Nat.mul_comm (256 ^ k) (n / 256 ^ k % 256), Nat.mul_assoc c 256 (256 ^ k), Nat.mul_comm 256 (256 ^ k)]
    omega
/-- Blanks behind are dropped. -/
theorem trim_parts (l : List UInt8) : ∃ k, l = Lib.trimRightB l 32 ++ List.replicate k 32 ∧ (∀ a b, Lib.trimRightB l 32 = a ++ [b] → b ≠ 32) := by
  unfold Lib.trimRightB
  have key : ∀ r : List UInt8, ∃ k, r = List.replicate k 32 ++ r.dropWhile (· == 32) ∧ (∀ b t, r.dropWhile (· == 32) = b :: t → b ≠ 32) := by
    intro r
    induction r with
    | nil => exact ⟨0, rfl, fun b t h => by cases h⟩
    | cons x r ih =>
      obtain ⟨k, e, hn⟩ := ih
      by_cases hx : (x == 32) = true
      · have hx2 : x = 32 := by simpa using hx
        subst hx2
        refine ⟨k + 1, ?_, ?_⟩
        · rw [List.dropWhile_cons_of_pos (by simp), List.replicate_succ, List.cons_append, ← e]
        · rw [List.dropWhile_cons_of_pos (by simp)]; exact hn
      · rw [List.dropWhile_cons_of_neg (by simpa using hx)]
        exact ⟨0, rfl, fun b t h => by cases h; simpa using hx⟩
  obtain ⟨k, e, hn⟩ := key l.reverse
  refine ⟨k, ?_, fun a b h => ?_⟩
  · have := congrArg List.reverse e
    rw [List.reverse_reverse, List.reverse_append, List.reverse_replicate] at this
    exact this
  · have h2 := congrArg List.reverse h
    rw [List.reverse_reverse, List.reverse_append] at h2
    exact hn b a.reverse h2
/-- How a code is written. -/
def signs (n : Nat) : List UInt8 := Lib.trimRightB (beBytes 4 n) 32
def codeText (n : Nat) : List UInt8 := match ofSgn (signs n) with
  | some _ => sSC ++ signs n
  | none => sSN ++ dgs 10 10 n
theorem ofSgn_all (l : List UInt8) (h0 : l ≠ []) (h4 : l.length ≤ 4) (h : ∀ b ∈ l, isSgn b.toNat = true) : ofSgn l = some (bigF 0 (l ++ List.replicate (4 - l.length) 32)) := by
  rw [ofSgn_bytes, if_neg (by simp [h0]; omega), sgnB_all l 0 h, bigF_append, ← padC_big]
theorem ofSgn_parts (l : List UInt8) (m : Nat) (h : ofSgn l = some m) : l ≠ [] ∧ l.length ≤ 4 ∧ (∀ b ∈ l, isSgn b.toNat = true) ∧ m = bigF 0 (l ++ List.replicate (4 - l.length) 32) := by
  by_cases hc : l = [] ∨ 4 < l.length
  · rw [ofSgn_bytes, if_pos hc] at h; cases h
  · have h0 : l ≠ [] := fun e => hc (.inl e)
    have h4 : l.length ≤ 4 := by
      rcases Nat.lt_or_ge 4 l.length with h' | h'
      · exact absurd (.inr h') hc
      · exact h'
    have h2 := h
    rw [ofSgn_bytes, if_neg hc] at h2
    cases hs : sgnB 0 l with
    | none => rw [hs] at h2; cases h2
    | some c =>
      have ha := (sgnB_big l 0 c hs).2
      refine ⟨h0, h4, ha, ?_⟩
      rw [ofSgn_all l h0 h4 ha] at h
      cases h; rfl
theorem signs_sgn (n : Nat) (hn : n < 4294967296) (m : Nat) (h : ofSgn (signs n) = some m) : m = n ∧ n < 2147483648 := by
  obtain ⟨h0, h4, ha, e⟩ := ofSgn_parts _ _ h
  obtain ⟨k, hk, _⟩ := trim_parts (beBytes 4 n)
  have hl := congrArg List.length hk
  rw [beBytes_length, List.length_append, List.length_replicate] at hl
  have hs : Lib.trimRightB (beBytes 4 n) 32 = signs n := rfl
  rw [hs] at hk hl
  have hk2 : 4 - (signs n).length = k := by omega
  rw [hk2, ← hk, bigF_be, Nat.mod_eq_of_lt (by omega)] at e
  refine ⟨by omega, ?_⟩
  cases hq : signs n with
  | nil => exact absurd hq h0
  | cons b t =>
    rw [hq] at hk ha
    have hb := isSgn_low (ha b (by simp))
    have h1 : beBytes 4 n = UInt8.ofNat (n / 16777216 % 256) :: beBytes 3 n := rfl
    rw [h1, List.cons_append] at hk
    have h2 := (List.cons.inj hk).1
    rw [← h2] at hb
    have h3 : (UInt8.ofNat (n / 16777216 % 256)).toNat = n / 16777216 % 256 := by simp
    rw [h3] at hb
    omega
/-- What is written names the code again. -/
theorem serv_text (n : Nat) (hn : n < 4294967296) : serv (codeText n) = if n = 4294967295 then none else some n := by
  unfold codeText
  cases h : ofSgn (signs n) with
  | none => show serv (sSN ++ dgs 10 10 n) = _; rw [serv_num, numC_dec n hn]
  | some m =>
    obtain ⟨e, hl⟩ := signs_sgn n hn m h
    show serv (sSC ++ signs n) = _
    rw [serv_sgn, h, e, if_neg (by omega)]
/-- By the document: the signs ahead, nothing but blanks behind them. -/
theorem text_parts (n k : Nat) (hk : k ≤ 4) (h1 : ∀ j, j < k → isSgn ((beBytes 4 n).getD j 0).toNat = true) (h2 : k < 4 → isSgn ((beBytes 4 n).getD k 0).toNat = false) :
    ((0 < k ∧ ∀ j, k ≤ j → j < 4 → ((beBytes 4 n).getD j 0).toNat = 32) → codeText n = sSC ++ (beBytes 4 n).take k) ∧ (¬ (0 < k ∧ ∀ j, k ≤ j → j < 4 → ((beBytes 4 n).getD j 0).toNat = 32) → codeText n = sSN ++ dgs 10 10 n) := by
  have hlen := beBytes_length 4 n
  obtain ⟨q, hq, hlast⟩ := trim_parts (beBytes 4 n)
  have hs : Lib.trimRightB (beBytes 4 n) 32 = signs n := rfl
  rw [hs] at hq hlast
  have hl := congrArg List.length hq
  rw [hlen, List.length_append, List.length_replicate] at hl
  unfold codeText
  clear hs
  generalize signs n = g at *
  generalize beBytes 4 n = l at *
  have h32 : isSgn 32 = false := by decide
  have tail32 : ∀ j, g.length ≤ j → j < 4 → (l.getD j 0).toNat = 32 := fun j a b => by
    rw [hq, List.getD_eq_getElem?_getD, List.getElem?_append_right a, List.getElem?_replicate, if_pos (by omega)]; rfl
  have headg : ∀ j, j < g.length → l.getD j 0 = g.getD j 0 := fun j a => by
    rw [hq, List.getD_eq_getElem?_getD, List.getElem?_append_left a, List.getD_eq_getElem?_getD]
  refine ⟨fun hc => ?_, fun hc => ?_⟩
  · obtain ⟨k0, hb⟩ := hc
    have hgk : g.length = k := by
      rcases Nat.lt_trichotomy g.length k with a | a | a
      · have x1 := h1 (k - 1) (by omega)
        rw [tail32 (k - 1) (by omega) (by omega), h32] at x1; cases x1
      · exact a
      · have hg0 : g ≠ [] := fun e => by rw [e] at a; simp at a
        have e1 := hlast g.dropLast (g.getLast hg0) (List.dropLast_concat_getLast hg0).symm
        have e2 := hb (g.length - 1) (by omega) (by omega)
        rw [headg _ (by omega), List.getD_eq_getElem?_getD, ← List.getLast?_eq_getElem?, List.getLast?_eq_some_getLast hg0] at e2
        exact absurd (UInt8.toNat_inj.1 e2) e1
    have hgt : l.take k = g := by rw [← hgk, hq, List.take_left]
    have hall : ∀ b ∈ g, isSgn b.toNat = true := fun b hbm => by
      obtain ⟨j, hj, rfl⟩ := List.getElem_of_mem hbm
      have x1 := h1 j (by omega)
      rw [headg j hj, List.getD_eq_getElem?_getD, List.getElem?_eq_getElem hj] at x1
      exact x1
    rw [ofSgn_all g (fun e => by rw [e] at hgk; simp at hgk; omega) (by omega) hall, hgt]
  · cases ho : ofSgn g with
    | none => rfl
    | some m =>
      exfalso
      obtain ⟨g0, g4, ga, _⟩ := ofSgn_parts g m ho
      have gl : 0 < g.length := List.length_pos_iff.2 g0
      have hsg : ∀ j, j < g.length → isSgn (l.getD j 0).toNat = true := fun j a => by
        rw [headg j a, List.getD_eq_getElem?_getD, List.getElem?_eq_getElem a]
        exact ga _ (List.getElem_mem a)
      have hkg : k = g.length := by
        rcases Nat.lt_trichotomy k g.length with a | a | a
        · have x1 := h2 (by omega)
          rw [hsg k a] at x1; cases x1
        · exact a
        · have x1 := h1 g.length (by omega)
          rw [tail32 _ (Nat.le_refl _) (by omega), h32] at x1; cases x1
      exact hc ⟨by omega, fun j a b => tail32 j (by omega) b⟩
end M
end Go.Proofs.YtjbcjcfmjagbkaaGreatDoor
namespace Go.Proofs.YtjbcjcfmjagbkaaGreatDoor
open Go
set_option linter.unusedVariables false
namespace M
theorem pre3 (x y z a b c : UInt8) (t : List UInt8) : Lib.hasPrefix (a :: b :: c :: t) [x, y, z] = (x == a && (y == b && (z == c && true))) := by
  show List.isPrefixOf [x, y, z] (a :: b :: c :: t) = _
  simp [List.isPrefixOf]
theorem serv_four (a b c : UInt8) (t : List UInt8) : serv (a :: b :: c :: t) = if a = 83 ∧ b = 67 then (if c = 58 then ofSgn t else if c = 61 then numC t else none) else none := by
  by_cases h : a = 83 ∧ b = 67
  · obtain ⟨rfl, rfl⟩ := h
    rw [if_pos ⟨rfl, rfl⟩]
    by_cases h1 : c = 58
    · subst h1; rw [if_pos rfl]; exact serv_sgn t
    · rw [if_neg h1]
      by_cases h2 : c = 61
      · subst h2; rw [if_pos rfl]; exact serv_num t
      · rw [if_neg h2]
        unfold serv sSC sSN
        rw [pre3, pre3]
        have e1 : ((58 : UInt8) == c) = false := by rw [beq_eq_false_iff_ne]; exact fun e => h1 e.symm
        have e2 : ((61 : UInt8) == c) = false := by rw [beq_eq_false_iff_ne]; exact fun e => h2 e.symm
        rw [e1, e2]; rfl
  · rw [if_neg h]
    unfold serv sSC sSN
    rw [pre3, pre3]
    by_cases ha : a = 83
    · have hb : b ≠ 67 := fun e => h ⟨ha, e⟩
      have e1 : ((67 : UInt8) == b) = false := by rw [beq_eq_false_iff_ne]; exact fun e => hb e.symm
      rw [e1]; simp
    · have e1 : ((83 : UInt8) == a) = false := by rw [beq_eq_false_iff_ne]; exact fun e => ha e.symm
      rw [e1]; simp
theorem serv_short (l : List UInt8) (h : l.length < 4) : serv l = none := by
  match l, h with
  | [], _ => rfl
  | [a], _ => unfold serv sSC sSN; show (if List.isPrefixOf [83, 67, 58] [a] = true then _ else if List.isPrefixOf [83, 67, 61] [a] = true then _ else none) = none; simp [List.isPrefixOf]
  | [a, b], _ => unfold serv sSC sSN; show (if List.isPrefixOf [83, 67, 58] [a, b] = true then _ else if List.isPrefixOf [83, 67, 61] [a, b] = true then _ else none) = none; simp [List.isPrefixOf]
  | [a, b, c], _ =>
    rw [serv_four]
    split
    · split
      · rfl
      · split <;> rfl
    · rfl
theorem ofSgn_no (l : List UInt8) (j : Nat) (hj : j < l.length) (h : isSgn (l.getD j 0).toNat = false) : ofSgn l = none := by
  cases ho : ofSgn l with
  | none => rfl
  | some m =>
    have := (ofSgn_parts l m ho).2.2.1 (l.getD j 0) (by rw [List.getD_eq_getElem?_getD, List.getElem?_eq_getElem hj]; exact List.getElem_mem hj)
    rw [h] at this; cases this
theorem ofSgn_long (l : List UInt8) (h : 4 < l.length) : ofSgn l = none := by rw [ofSgn_bytes, if_pos (.inr h)]
/-- The byte at j, a blank behind the end. -/
def padB (l : List UInt8) (j : Nat) : Nat := if j < l.length then (l.getD j 0).toNat else 32
def bigN (l : List UInt8) : Nat → Nat
  | 0 => 0
  | j + 1 => bigN l j * 256 + padB l j
theorem bigN_lt (l : List UInt8) : ∀ j, bigN l j < 256 ^ j
  | 0 => by simp [bigN]
  | j + 1 => by
    have h1 := bigN_lt l j
    have h2 : padB l j < 256 := by unfold padB; split; exact (l.getD j 0).toNat_lt; decide
    show bigN l j * 256 + padB l j < _
    rw [Nat.pow_succ]; omega
theorem bigF_one (a : List UInt8) (b : UInt8) (c : Nat) : bigF c (a ++ [b]) = bigF c a * 256 + b.toNat := by rw [bigF_append]; rfl
theorem bigN_take (l : List UInt8) (k : Nat) : ∀ j, j ≤ l.length + k → bigN l j = bigF 0 ((l ++ List.replicate k 32).take j)
  | 0, _ => rfl
  | j + 1, h => by
    have hj : j < (l ++ List.replicate k 32).length := by rw [List.length_append, List.length_replicate]; omega
    rw [List.take_succ_eq_append_getElem hj, bigF_one, ← bigN_take l k j (by omega)]
    show bigN l j * 256 + padB l j = _
    congr 1
    unfold padB
    by_cases hl : j < l.length
    · rw [if_pos hl, List.getElem_append_left hl, List.getD_eq_getElem?_getD, List.getElem?_eq_getElem hl]; rfl
    · rw [if_neg hl, List.getElem_append_right (by omega), List.getElem_replicate]; rfl
theorem ofSgn_doc (l : List UInt8) (h0 : l ≠ []) (h4 : l.length ≤ 4) (h : ∀ j, j < 4 → j < l.length → isSgn (l.getD j 0).toNat = true) : ofSgn l = some (bigN l 4) := by
  rw [bigN_take l (4 - l.length) 4 (by omega), List.take_of_length_le (by rw [List.length_append, List.length_replicate]; omega)]
  refine ofSgn_all l h0 h4 (fun b hb => ?_)
  obtain ⟨j, hj, rfl⟩ := List.getElem_of_mem hb
  have := h j (by omega) hj
  rw [List.getD_eq_getElem?_getD, List.getElem?_eq_getElem hj] at this
  exact this
theorem numC_cons (c : UInt8) (r : List UInt8) : numC (c :: r) = if c.toNat = 120 ∨ c.toNat = 88 then ofDig 16 8 r else if c.toNat = 48 ∧ r ≠ [] then none else ofDig 10 10 (c :: r) := rfl
theorem numB_step (base n : Nat) (l : List UInt8) (j : Nat) (hj : j < l.length) : numB base n (l.drop j) = match digitR (l.getD j 0).toNat with
    | none => none
    | some d => if base ≤ d then none else numB base (n * base + d) (l.drop (j + 1)) := by
  have e : l.drop j = l.getD j 0 :: l.drop (j + 1) := by
    rw [List.drop_eq_getElem_cons hj, List.getD_eq_getElem?_getD, List.getElem?_eq_getElem hj]; rfl
  rw [e]; rfl
end M
end Go.Proofs.YtjbcjcfmjagbkaaGreatDoor
