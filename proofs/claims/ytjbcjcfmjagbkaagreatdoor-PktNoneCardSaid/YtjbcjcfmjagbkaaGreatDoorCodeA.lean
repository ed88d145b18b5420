/-
  Runes of texts: their kinds, and how many of each.
-/
import Derived.Test.YtjbcjcfmjagbkaaGreatDoorRuneMath
import Derived.Test.YtjbcjcfmjagbkaaGreatDoorWords
import Derived.Test.YtjbcjcfmjagbkaaGreatDoorBel
import Derived.Test.YtjbcjcfmjagbkaaGreatDoorText
import Derived.Lib.OthersKept
import Derived.LoopTactic
import Derived.BigCall
namespace Go.Proofs.YtjbcjcfmjagbkaaGreatDoor
open Go.ChangeShapes Go.WideShapes Go.ChangeAt Go.RowKit
set_option linter.unusedVariables false

theorem isLetter_any (r : Nat) (hr : r ≤ 2147483647) (w : World) : Calls Tryz.prog 86 #[.int .i32 r] w fun e w' => e = .returned (.bool (M.isLet r)) ∧ w = w' := by
  have HB : Hid (M.isLet r = decide (65 ≤ r ∧ r ≤ 90 ∨ 97 ≤ r ∧ r ≤ 122)) := Lib.hid rfl
  by_cases h1 : 97 ≤ r
  · have d1 : decide ((97 : Int) ≤ r) = true := decide_eq_true (by omega)
    have d3 : decide ((65 : Int) ≤ r) = true := decide_eq_true (by omega)
    by_cases h2 : r ≤ 122
    · have d2 : decide ((r : Int) ≤ 122) = true := decide_eq_true (by omega)
      go_enter Tryz.func86, Tryz.ntmps86
      go_wp2
      go_ret
      exact ⟨M.ret_bool (by rw [HB.out, Bool.eq_iff_iff]; simp; omega), rfl⟩
    · have d2 : decide ((r : Int) ≤ 122) = false := decide_eq_false (by omega)
      have d4 : decide ((r : Int) ≤ 90) = false := decide_eq_false (by omega)
      go_enter Tryz.func86, Tryz.ntmps86
      go_wp2
      go_ret
      exact ⟨M.ret_bool (by rw [HB.out, Bool.eq_iff_iff]; simp; omega), rfl⟩
  · have d1 : decide ((97 : Int) ≤ r) = false := decide_eq_false (by omega)
    by_cases h3 : 65 ≤ r
    · have d3 : decide ((65 : Int) ≤ r) = true := decide_eq_true (by omega)
      go_enter Tryz.func86, Tryz.ntmps86
      go_wp2
      go_ret
      exact ⟨M.ret_bool (by rw [HB.out, Bool.eq_iff_iff]; simp; omega), rfl⟩
    · have d3 : decide ((65 : Int) ≤ r) = false := decide_eq_false (by omega)
      go_enter Tryz.func86, Tryz.ntmps86
      go_wp2
      go_ret
      exact ⟨M.ret_bool (by rw [HB.out, Bool.eq_iff_iff]; simp; omega), rfl⟩
theorem isDigit_any (r : Nat) (hr : r ≤ 2147483647) (w : World) : Calls Tryz.prog 87 #[.int .i32 r] w fun e w' => e = .returned (.bool (M.isDig r)) ∧ w = w' := by
  have HB : Hid (M.isDig r = decide (48 ≤ r ∧ r ≤ 57)) := Lib.hid rfl
  by_cases h1 : 48 ≤ r
  · have d1 : decide ((48 : Int) ≤ r) = true := decide_eq_true (by omega)
    go_enter Tryz.func87, Tryz.ntmps87
    go_wp2
    go_ret
    exact ⟨M.ret_bool (by rw [HB.out, Bool.eq_iff_iff]; simp; omega), rfl⟩
  · have d1 : decide ((48 : Int) ≤ r) = false := decide_eq_false (by omega)
    go_enter Tryz.func87, Tryz.ntmps87
    go_wp2
    go_ret
    exact ⟨M.ret_bool (by rw [HB.out, Bool.eq_iff_iff]; simp; omega), rfl⟩
theorem shown_any (r : Nat) (hr : r ≤ 2147483647) (w : World) : Calls Tryz.prog 84 #[.int .i32 r] w fun e w' => e = .returned (.int .i32 (M.shown r)) ∧ w = w' := by
  have HB : Hid (M.shown r = if r < 32 ∨ r = 127 then 32 else r) := Lib.hid rfl
  by_cases h1 : r < 32
  · have d1 : decide ((r : Int) < 32) = true := decide_eq_true (by omega)
    go_enter Tryz.func84, Tryz.ntmps84
    go_wp2
    go_ret
    exact ⟨M.ret_int (by rw [HB.out, if_pos (.inl h1)]; rfl), rfl⟩
  · have d1 : decide ((r : Int) < 32) = false := decide_eq_false (by omega)
    by_cases h2 : r = 127
    · subst h2
      go_enter Tryz.func84, Tryz.ntmps84
      go_wp2
      go_ret
      exact ⟨M.ret_int (by rw [HB.out]; simp), rfl⟩
    · have d2 : ((r : Int) == 127) = false := by rw [beq_eq_false_iff_ne]; omega
      go_enter Tryz.func84, Tryz.ntmps84
      go_wp2
      go_ret
      exact ⟨M.ret_int (by rw [HB.out, if_neg (by omega)]), rfl⟩

/-- What range has told so far of a text's kinds. -/
structure Told (l : List UInt8) (pos A B D : Nat) : Prop where
  a : A + M.lets (M.runes (l.drop pos)) = M.lets (M.runes l)
  b : B + M.digs (M.runes (l.drop pos)) = M.digs (M.runes l)
  d : D + M.othr (M.runes (l.drop pos)) = M.othr (M.runes l)
  le : A + B + D ≤ pos
theorem told_step {l : List UInt8} {pos A B D R W : Nat} (h : Told l pos A B D) (hp : pos < l.length) (hd : Lib.decodeL (l.drop pos) = (R, W)) :
    1 ≤ W ∧ pos + W ≤ l.length ∧ Told l (pos + W) (A + if M.isLet R = true then 1 else 0) (B + if M.isLet R = false ∧ M.isDig R = true then 1 else 0) (D + if M.isLet R = false ∧ M.isDig R = false then 1 else 0) := by
  have hne : l.drop pos ≠ [] := by
    intro hh
    have := congrArg List.length hh
    rw [List.length_drop, List.length_nil] at this; omega
  have hw := M.decode_wide _ hne
  have hs := M.runes_step _ hne
  rw [hd] at hw hs
  dsimp only at hw hs
  rw [List.length_drop] at hw
  rw [List.drop_drop] at hs
  obtain ⟨h1, h2, h3, h4⟩ := h
  rw [hs] at h1 h2 h3
  have c1 : M.lets (R :: M.runes (l.drop (pos + W))) = M.lets (M.runes (l.drop (pos + W))) + if M.isLet R = true then 1 else 0 := by unfold M.lets; rw [List.countP_cons]
  have c2 : M.digs (R :: M.runes (l.drop (pos + W))) = M.digs (M.runes (l.drop (pos + W))) + if (!M.isLet R && M.isDig R) = true then 1 else 0 := by unfold M.digs; rw [List.countP_cons]
  have c3 : M.othr (R :: M.runes (l.drop (pos + W))) = M.othr (M.runes (l.drop (pos + W))) + if (!M.isLet R && !M.isDig R) = true then 1 else 0 := by unfold M.othr; rw [List.countP_cons]
  rw [c1] at h1
  rw [c2] at h2
  rw [c3] at h3
  clear c1 c2 c3 hs
  refine ⟨hw.1, by omega, ?_, ?_, ?_, ?_⟩
  · revert h1; cases M.isLet R <;> simp <;> omega
  · revert h2; cases M.isLet R <;> cases M.isDig R <;> simp <;> omega
  · revert h3; cases M.isLet R <;> cases M.isDig R <;> simp <;> omega
  · cases M.isLet R <;> cases M.isDig R <;> simp <;> omega

set_option maxHeartbeats 4000000 in
set_option maxRecDepth 100000 in
theorem codeRunes_any (l : List UInt8) (hl : l.length ≤ 1000000000) (w : World) :
    Calls Tryz.prog 36 #[.string (str l)] w fun e w' => e = .returned (.tuple #[.int .i64 (M.lets (M.runes l)), .int .i64 (M.digs (M.runes l)), .int .i64 (M.othr (M.runes l))]) ∧ Below w.heap.size w w' := by
  obtain ⟨s, hs⟩ : ∃ s, str l = s := ⟨_, rfl⟩
  have hsz : s.size = l.length := by rw [← hs]; rfl
  have hdec : ∀ pos, Utf8.decode s pos = Lib.decodeL (l.drop pos) := fun pos => by rw [← hs]; exact (Lib.decodeL_drop (str l) pos).symm
  rw [hs]
  have HD := Lib.hid hdec; have HSZ := Lib.hid hsz
  clear hs hdec hsz
  go_enter Tryz.func36, Tryz.ntmps36
  go_wp2
  go_loopw [2, 3, 4] (fun a b c wr => ∃ (pos A B D : Nat), a = .int .i64 A ∧ b = .int .i64 B ∧ c = .int .i64 D ∧ wr.heap[w.heap.size]? = some (.stringIter s pos) ∧ Hid (Below w.heap.size w wr) ∧ Hid (Told l pos A B D) ∧ pos ≤ l.length ∧ A + B + D ≤ pos) (fun _ _ _ wr => s.size - wr.iterPos w.heap.size)
  case atStart =>
    refine ⟨0, 0, 0, 0, rfl, rfl, rfl, World.iter_heap w s 0, Lib.hid ((Below.refl _ w).alloc (Nat.le_refl _) _), Lib.hid ⟨by simp, by simp, by simp, Nat.le_refl _⟩, Nat.zero_le _, Nat.le_refl _⟩
  case round =>
    obtain ⟨pos, A, B, D, rfl, rfl, rfl, hit, hbw, htold, hpl, hle⟩ := hrel
    by_cases hp : pos < s.size
    · have hnx : ∀ ty, (Instr.next (.pointer (some ⟨w.heap.size, 0, none⟩)) true ty).run Tryz.prog wr = _ := fun ty => Lib.run_next_any_at wr w.heap.size s pos ty hit hp
      obtain ⟨R, W, hRW⟩ : ∃ R W, Utf8.decode s pos = (R, W) := ⟨_, _, rfl⟩
      have hR := decode_le s pos
      rw [hRW] at hnx hR
      dsimp only at hnx hR
      have hd2 : Lib.decodeL (l.drop pos) = (R, W) := by rw [← HD.out]; exact hRW
      obtain ⟨w1, w2, ht2⟩ := told_step htold.out (by rw [← HSZ.out]; exact hp) hd2
      have hit2 := Lib.iterAt_heap wr w.heap.size s pos (pos + W) hit
      have hbw2 := Lib.hid (Lib.below_iterAt hbw.out (k := w.heap.size) (Nat.le_refl _) s (pos + W))
      have HT2 := Lib.hid ht2
      have HIL := Lib.hid (fun w => isLetter_any R hR w)
      have HID := Lib.hid (fun w => isDigit_any R hR w)
      have hms : s.size - (pos + W) < s.size - pos := by omega
      have HMS := Lib.hid hms
      clear ht2 hd2 hRW htold hms
      generalize wr.iterAt w.heap.size s (pos + W) = w5 at *
      cases hb1 : M.isLet R <;> cases hb2 : M.isDig R <;> rw [hb1] at HIL HT2 <;> rw [hb2] at HID HT2 <;> simp only [if_true, Bool.false_eq_true, if_false, and_true, and_false, and_self, Nat.add_zero, reduceCtorEq] at HT2
      all_goals
        go_wp2_with (first
          | (go_at_call 86; refine (HIL.out _).mono ?_; rintro e w6 ⟨rfl, rfl⟩)
          | (go_at_call 87; refine (HID.out _).mono ?_; rintro e w6 ⟨rfl, rfl⟩))
        refine ⟨⟨pos + W, _, _, _, ?_, ?_, ?_, hit2, hbw2, HT2, by omega, HT2.out.le⟩, ?_⟩
      all_goals first
        | rfl
        | (simp only [World.iterPos, hit2, hit]; exact HMS.out)
        | go_num
    · have hnx : ∀ ty, (Instr.next (.pointer (some ⟨w.heap.size, 0, none⟩)) true ty).run Tryz.prog wr = _ := fun ty => Lib.run_next_end_at wr w.heap.size s pos ty hit hp
      have hnil : l.drop pos = [] := List.drop_eq_nil_of_le (by rw [← HSZ.out]; omega)
      have HT := Lib.hid htold.out
      go_wp2
      go_ret3
      obtain ⟨h1, h2, h3, _⟩ := HT.out
      rw [hnil] at h1 h2 h3
      have h1' : A = M.lets (M.runes l) := h1
      have h2' : B = M.digs (M.runes l) := h2
      have h3' : D = M.othr (M.runes l) := h3
      rw [h1', h2', h3']
      exact ⟨rfl, hbw.out⟩
end Go.Proofs.YtjbcjcfmjagbkaaGreatDoor
