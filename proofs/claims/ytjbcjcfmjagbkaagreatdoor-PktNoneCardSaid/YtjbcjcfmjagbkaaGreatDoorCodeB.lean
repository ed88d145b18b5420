/-
  Numbers that people write, by runes.
-/
import Derived.Test.YtjbcjcfmjagbkaaGreatDoorCodeA
namespace Go.Proofs.YtjbcjcfmjagbkaaGreatDoor
open Go.ChangeShapes Go.WideShapes Go.ChangeAt Go.RowKit
set_option linter.unusedVariables false
namespace M
/-- What a rune stands for in a number. -/
def digitR (r : Nat) : Option Nat := if 48 ≤ r ∧ r ≤ 57 then some (r - 48) else if 97 ≤ r ∧ r ≤ 102 then some (r - 87) else if 65 ≤ r ∧ r ≤ 70 then some (r - 55) else none
/-- A number by its digits, so far n. -/
def numF (b : Nat) : Nat → List Nat → Option Nat
  | n, [] => some n
  | n, r :: rs => match digitR r with
    | none => none
    | some d => if b ≤ d then none else numF b (n * b + d) rs
/-- A code as a number; none: it is none. -/
def ofDig (b most : Nat) (l : List UInt8) : Option Nat := if l = [] ∨ most < l.length then none else match numF b 0 (runes l) with
  | none => none
  | some n => if 4294967295 ≤ n then none else some n
end M
/-- A code or none, as it is answered. -/
def codeRes (o : Option Nat) : Value := match o with | none => .tuple #[.int .u32 0, .bool false] | some n => .tuple #[.int .u32 n, .bool true]
def digRes (o : Option Nat) : Value := match o with | none => .tuple #[.int .u64 0, .bool false] | some n => .tuple #[.int .u64 n, .bool true]

theorem ret_dig {o : Option Nat} {n : Int} {m : Nat} (h : o = some m) (e : n = (m : Int)) : Ending.returned (.tuple #[.int .u64 n, .bool true]) = .returned (digRes o) := by rw [h, e]; rfl
theorem ret_nodig {o : Option Nat} (h : o = none) : Ending.returned (.tuple #[.int .u64 0, .bool false]) = .returned (digRes o) := by rw [h]; rfl

set_option maxHeartbeats 1000000 in
theorem digit_any (r : Nat) (hr : r ≤ 2147483647) (w : World) : Calls Tryz.prog 112 #[.int .i32 r] w fun e w' => e = .returned (digRes (M.digitR r)) ∧ w = w' := by
  have HID := Lib.hid (fun w => isDigit_any r hr w)
  have HB : Hid (M.digitR r = if 48 ≤ r ∧ r ≤ 57 then some (r - 48) else if 97 ≤ r ∧ r ≤ 102 then some (r - 87) else if 65 ≤ r ∧ r ≤ 70 then some (r - 55) else none) := Lib.hid rfl
  have HDD : Hid (M.isDig r = decide (48 ≤ r ∧ r ≤ 57)) := Lib.hid rfl
  by_cases h1 : 48 ≤ r ∧ r ≤ 57
  · rw [HDD.out, decide_eq_true h1] at HID
    rw [if_pos h1] at HB
    obtain ⟨m, rfl⟩ : ∃ m, r = m + 48 := ⟨r - 48, by omega⟩
    go_enter Tryz.func112, Tryz.ntmps112
    go_wp2_with (go_at_call 87; refine (HID.out _).mono ?_; rintro e w1 ⟨rfl, rfl⟩)
    go_ret2
    exact ⟨ret_dig HB.out (by omega), rfl⟩
  · rw [HDD.out, decide_eq_false h1] at HID
    rw [if_neg h1] at HB
    by_cases h2 : 97 ≤ r ∧ r ≤ 102
    · rw [if_pos h2] at HB
      have d1 : decide ((97 : Int) ≤ r) = true := decide_eq_true (by omega)
      have d2 : decide ((r : Int) ≤ 102) = true := decide_eq_true (by omega)
      go_enter Tryz.func112, Tryz.ntmps112
      go_wp2_with (go_at_call 87; refine (HID.out _).mono ?_; rintro e w1 ⟨rfl, rfl⟩)
      go_ret2
      exact ⟨ret_dig HB.out (by omega), rfl⟩
    · rw [if_neg h2] at HB
      by_cases h3 : 65 ≤ r ∧ r ≤ 70
      · rw [if_pos h3] at HB
        have d1 : decide ((97 : Int) ≤ r) = false := decide_eq_false (by omega)
        have d3 : decide ((65 : Int) ≤ r) = true := decide_eq_true (by omega)
        have d4 : decide ((r : Int) ≤ 70) = true := decide_eq_true (by omega)
        go_enter Tryz.func112, Tryz.ntmps112
        go_wp2_with (go_at_call 87; refine (HID.out _).mono ?_; rintro e w1 ⟨rfl, rfl⟩)
        go_ret2
        exact ⟨ret_dig HB.out (by omega), rfl⟩
      · rw [if_neg h3] at HB
        by_cases h4 : 97 ≤ r
        · have d1 : decide ((97 : Int) ≤ r) = true := decide_eq_true (by omega)
          have d2 : decide ((r : Int) ≤ 102) = false := decide_eq_false (by omega)
          have d3 : decide ((65 : Int) ≤ r) = true := decide_eq_true (by omega)
          have d4 : decide ((r : Int) ≤ 70) = false := decide_eq_false (by omega)
          go_enter Tryz.func112, Tryz.ntmps112
          go_wp2_with (go_at_call 87; refine (HID.out _).mono ?_; rintro e w1 ⟨rfl, rfl⟩)
          go_ret2
          exact ⟨ret_nodig HB.out, rfl⟩
        · have d1 : decide ((97 : Int) ≤ r) = false := decide_eq_false (by omega)
          by_cases h5 : 65 ≤ r
          · have d3 : decide ((65 : Int) ≤ r) = true := decide_eq_true (by omega)
            have d4 : decide ((r : Int) ≤ 70) = false := decide_eq_false (by omega)
            go_enter Tryz.func112, Tryz.ntmps112
            go_wp2_with (go_at_call 87; refine (HID.out _).mono ?_; rintro e w1 ⟨rfl, rfl⟩)
            go_ret2
            exact ⟨ret_nodig HB.out, rfl⟩
          · have d3 : decide ((65 : Int) ≤ r) = false := decide_eq_false (by omega)
            go_enter Tryz.func112, Tryz.ntmps112
            go_wp2_with (go_at_call 87; refine (HID.out _).mono ?_; rintro e w1 ⟨rfl, rfl⟩)
            go_ret2
            exact ⟨ret_nodig HB.out, rfl⟩

theorem ret_code {o : Option Nat} {n : Int} {m : Nat} (h : o = some m) (e : n = (m : Int)) : Ending.returned (.tuple #[.int .u32 n, .bool true]) = .returned (codeRes o) := by rw [h, e]; rfl
theorem ret_nocode {o : Option Nat} (h : o = none) : Ending.returned (.tuple #[.int .u32 0, .bool false]) = .returned (codeRes o) := by rw [h]; rfl
/-- One rune further on. -/
theorem num_step {l : List UInt8} {pos R W b n : Nat} (hp : pos < l.length) (hd : Lib.decodeL (l.drop pos) = (R, W)) :
    1 ≤ W ∧ pos + W ≤ l.length ∧ M.numF b n (M.runes (l.drop pos)) = (match M.digitR R with | none => none | some d => if b ≤ d then none else M.numF b (n * b + d) (M.runes (l.drop (pos + W)))) := by
  have hne : l.drop pos ≠ [] := by
    intro hh
    have := congrArg List.length hh
    rw [List.length_drop, List.length_nil] at this; omega
  have hw := M.decode_wide _ hne
  have hs := M.runes_step _ hne
  rw [hd] at hw hs
  dsimp only at hw hs
  rw [List.length_drop] at hw
  rw [List.drop_drop] at hs
  refine ⟨hw.1, by omega, ?_⟩
  rw [hs]; rfl
theorem pow_grow {b n d pos W : Nat} (hn : n < b ^ pos) (hd : d < b) (hW : 1 ≤ W) : n * b + d < b ^ (pos + W) := by
  have h1 : (n + 1) * b ≤ b ^ pos * b := Nat.mul_le_mul_right b hn
  have h2 : b ^ pos * b ≤ b ^ (pos + W) := by
    rw [← Nat.pow_succ]
    exact Nat.pow_le_pow_right (by omega) (by omega)
  have h3 : (n + 1) * b = n * b + b := Nat.succ_mul n b
  omega

set_option maxHeartbeats 4000000 in
set_option maxRecDepth 100000 in
theorem ofDigits_any (l : List UInt8) (b most : Nat) (hl : l.length ≤ 9223372036854775807) (hb : 2 ≤ b ∧ b ≤ 16) (hm : most ≤ 100) (hbm : b ^ most ≤ 10000000000) (w : World) :
    Calls Tryz.prog 78 #[.string (str l), .int .u64 b, .int .i64 most] w fun e w' => e = .returned (codeRes (M.ofDig b most l)) ∧ Below w.heap.size w w' := by
  have HO : Hid (M.ofDig b most l = if l = [] ∨ most < l.length then none else match M.numF b 0 (M.runes l) with | none => none | some n => if 4294967295 ≤ n then none else some n) := Lib.hid rfl
  by_cases h0 : l = []
  · subst h0
    rw [if_pos (.inl rfl)] at HO
    have he : str [] = ⟨#[]⟩ := rfl
    rw [he]
    go_enter Tryz.func78, Tryz.ntmps78
    go_wp2
    go_ret2
    exact ⟨ret_nocode HO.out, Below.refl _ _⟩
  · have hne : (str l).toList.isEmpty = false := by
      rw [Lib.toList_data]
      cases l with
      | nil => exact absurd rfl h0
      | cons _ _ => rfl
    obtain ⟨s, hs⟩ : ∃ s, str l = s := ⟨_, rfl⟩
    have hsz : s.size = l.length := by rw [← hs]; rfl
    have hdec : ∀ pos, Utf8.decode s pos = Lib.decodeL (l.drop pos) := fun pos => by rw [← hs]; exact (Lib.decodeL_drop (str l) pos).symm
    rw [hs] at hne ⊢
    have HD := Lib.hid hdec; have HSZ := Lib.hid hsz
    obtain ⟨Z, hZ⟩ : ∃ Z : Int, (s.size : Int) = Z := ⟨_, rfl⟩
    have hZl : Z = l.length := by rw [← hZ, hsz]
    have HZL := Lib.hid hZl
    by_cases h1 : most < l.length
    · rw [if_pos (.inr h1)] at HO
      have d1 : decide ((most : Int) < Z) = true := decide_eq_true (by omega)
      clear hs hdec hsz hZl h0
      go_enter Tryz.func78, Tryz.ntmps78
      go_wp2
      go_ret2
      exact ⟨ret_nocode HO.out, Below.refl _ _⟩
    · rw [if_neg (by simp [h0, h1])] at HO
      have d1 : decide ((most : Int) < Z) = false := decide_eq_false (by omega)
      have hlm : l.length ≤ most := by omega
      clear hs hdec hsz hZl h0 h1
      go_enter Tryz.func78, Tryz.ntmps78
      go_wp2
      go_loopw [8] (fun a wr => ∃ (pos n : Nat), a = .int .u64 n ∧ wr.heap[w.heap.size]? = some (.stringIter s pos) ∧ Hid (Below w.heap.size w wr) ∧ Hid (M.numF b n (M.runes (l.drop pos)) = M.numF b 0 (M.runes l)) ∧ Hid (n < b ^ pos) ∧ pos ≤ l.length) (fun _ wr => s.size - wr.iterPos w.heap.size)
      case atStart =>
        exact ⟨0, 0, rfl, World.iter_heap w s 0, Lib.hid ((Below.refl _ w).alloc (Nat.le_refl _) _), Lib.hid (by simp), Lib.hid (by simp), Nat.zero_le _⟩
      case round =>
        obtain ⟨pos, n, rfl, hit, hbw, hnum, hlt, hpl⟩ := hrel
        have hle : n ≤ 10000000000 := by
          have h1 := hlt.out
          have h2 : b ^ pos ≤ b ^ most := Nat.pow_le_pow_right (by omega) (by omega)
          omega
        by_cases hp : pos < s.size
        · have hnx : ∀ ty, (Instr.next (.pointer (some ⟨w.heap.size, 0, none⟩)) true ty).run Tryz.prog wr = _ := fun ty => Lib.run_next_any_at wr w.heap.size s pos ty hit hp
          obtain ⟨R, W, hRW⟩ : ∃ R W, Utf8.decode s pos = (R, W) := ⟨_, _, rfl⟩
          have hR := decode_le s pos
          rw [hRW] at hnx hR
          dsimp only at hnx hR
          have hd2 : Lib.decodeL (l.drop pos) = (R, W) := by rw [← HD.out]; exact hRW
          obtain ⟨w1, w2, hst⟩ := num_step (b := b) (n := n) (by rw [← HSZ.out]; exact hp) hd2
          rw [hnum.out] at hst
          have hit2 := Lib.iterAt_heap wr w.heap.size s pos (pos + W) hit
          have hbw2 := Lib.hid (Lib.below_iterAt hbw.out (k := w.heap.size) (Nat.le_refl _) s (pos + W))
          have HDG := Lib.hid (fun w => digit_any R hR w)
          have HMS := Lib.hid (show s.size - (pos + W) < s.size - pos by omega)
          have HW1 := Lib.hid w1; have HW2 := Lib.hid w2
          clear hd2 hRW hnum w1 w2
          generalize wr.iterAt w.heap.size s (pos + W) = w5 at *
          cases hdg : M.digitR R with
          | none =>
            rw [hdg] at HDG hst
            have HST : Hid (M.numF b 0 (M.runes l) = none) := Lib.hid hst
            clear hst
            unfold digRes at HDG
            go_wp2_with (go_at_call 112; refine (HDG.out _).mono ?_; rintro e w6 ⟨rfl, rfl⟩)
            go_ret2
            exact ⟨ret_nocode (by rw [HO.out, HST.out]), hbw2.out⟩
          | some d =>
            rw [hdg] at HDG hst
            unfold digRes at HDG
            have hst2 : M.numF b 0 (M.runes l) = if b ≤ d then none else M.numF b (n * b + d) (M.runes (l.drop (pos + W))) := hst
            clear hst
            by_cases hbd : b ≤ d
            · rw [if_pos hbd] at hst2
              have HST := Lib.hid hst2
              have d2 : decide ((b : Int) ≤ d) = true := decide_eq_true (by omega)
              clear hst2
              go_wp2_with (go_at_call 112; refine (HDG.out _).mono ?_; rintro e w6 ⟨rfl, rfl⟩)
              go_ret2
              exact ⟨ret_nocode (by rw [HO.out, HST.out]), hbw2.out⟩
            · rw [if_neg hbd] at hst2
              have HST := Lib.hid hst2.symm
              have d2 : decide ((b : Int) ≤ d) = false := decide_eq_false (by omega)
              have hgr := Lib.hid (pow_grow hlt.out (show d < b by omega) HW1.out)
              have hdl : d < 16 := by omega
              obtain ⟨Q, hQ⟩ : ∃ Q : Nat, n * b = Q := ⟨_, rfl⟩
              have hQ2 : (n : Int) * (b : Int) = (Q : Int) := by rw [← hQ]; simp
              have hQ3 : Q ≤ 160000000000 := by rw [← hQ]; exact Nat.mul_le_mul hle hb.2
              rw [hQ] at HST hgr
              clear hst2 hlt hQ
              go_wp2_with (go_at_call 112; refine (HDG.out _).mono ?_; rintro e w6 ⟨rfl, rfl⟩)
              refine ⟨⟨pos + W, Q + d, ?_, hit2, hbw2, HST, hgr, HW2.out⟩, ?_⟩
              · go_num
              · simp only [World.iterPos, hit2, hit]; exact HMS.out
        · have hnx : ∀ ty, (Instr.next (.pointer (some ⟨w.heap.size, 0, none⟩)) true ty).run Tryz.prog wr = _ := fun ty => Lib.run_next_end_at wr w.heap.size s pos ty hit hp
          have hnil : l.drop pos = [] := List.drop_eq_nil_of_le (by rw [← HSZ.out]; omega)
          have hn2 := hnum.out
          rw [hnil] at hn2
          have HN2 : Hid (M.numF b 0 (M.runes l) = some n) := Lib.hid hn2.symm
          clear hnum hnil hn2 hlt
          by_cases h42 : 4294967295 ≤ n
          · have d2 : decide ((4294967295 : Int) ≤ n) = true := decide_eq_true (by omega)
            go_wp2
            go_ret2
            exact ⟨ret_nocode (by rw [HO.out, HN2.out]; exact if_pos h42), hbw.out⟩
          · have d2 : decide ((4294967295 : Int) ≤ n) = false := decide_eq_false (by omega)
            go_wp2
            go_ret2
            exact ⟨ret_code (m := n) (by rw [HO.out, HN2.out]; exact if_neg h42) (by omega), hbw.out⟩
end Go.Proofs.YtjbcjcfmjagbkaaGreatDoor
