/-
  The law CodeRunes, walked.
-/
import Derived.Test.YtjbcjcfmjagbkaaGreatDoorCodeV
import Derived.WalkMore
namespace Go.Proofs.YtjbcjcfmjagbkaaGreatDoor
open Go.ChangeShapes Go.WideShapes Go.ChangeAt Go.RowKit
set_option linter.unusedVariables false
set_option linter.unusedSimpArgs false

set_option maxHeartbeats 8000000 in
set_option maxRecDepth 100000 in
theorem codeRunes_walk (s : ByteArray) (most : Int) (hs : s.size ≤ maxLen) (b1 : -9223372036854775808 ≤ most) (b2 : most ≤ 9223372036854775807) (w : World) (ht : Tab8 w) :
    Calls Tryz.prog 5 #[.string s, .int .i64 most] w fun e w' => e = .returned (.bool true) ∧ Below w.heap.size w w' := by
  obtain ⟨l, hl, hll⟩ : ∃ l, s.data.toList.take 80 = l ∧ l.length ≤ 80 := ⟨_, rfl, by simp; omega⟩
  have HTXT := Lib.hid (fun w => textN_any s 80 80 l rfl (by omega) hs hl w)
  have hrl := M.runes_len l
  obtain ⟨q, hq⟩ : ∃ q, M.reason l most.toNat = q := ⟨_, rfl⟩
  have hqr : M.runes q = ((M.runes l).take most.toNat).map M.shown := by rw [← hq]; exact M.runes_reason l _
  have hqb : q.length ≤ 400 := by
    rw [← hq]
    have h1 := M.encs_len (((M.runes l).take most.toNat).map M.shown)
    rw [List.length_map, List.length_take] at h1
    unfold M.reason; omega
  have hqq : M.reason q 100 = q := by rw [← hq]; exact M.reason_twice l _ 100 (by omega)
  have hqn : (M.runes q).length = min most.toNat (M.runes l).length := by rw [hqr, List.length_map, List.length_take]
  have HRE := Lib.hid (fun w => codeReason_any l most (by omega) b1 b2 w)
  have HRR := Lib.hid (fun W (h : Tab8 W) => refReason_any l most (by omega) b1 b2 W h)
  have HRE2 : Hid (∀ w, Calls Tryz.prog 34 #[.string (str q), .int .i64 100] w fun e w' => e = .returned (.string (str q)) ∧ Below w.heap.size w w') := Lib.hid (fun w => by
    have e := codeReason_any q 100 (by omega) (by omega) (by omega) w
    rwa [show (100 : Int).toNat = 100 from rfl, hqq] at e)
  have HRU := Lib.hid (fun w => codeRunes_any l (by omega) w)
  have HRQ := Lib.hid (fun w => codeRunes_any q (by omega) w)
  have HKL := Lib.hid (M.kinds_all (M.runes l))
  have HKQ : Hid (M.lets (M.runes q) + M.digs (M.runes q) + M.othr (M.runes q) = min most.toNat (M.runes l).length) := Lib.hid (by rw [M.kinds_all, hqn])
  have hk3 : M.lets (M.runes q) ≤ 100 ∧ M.digs (M.runes q) ≤ 100 ∧ M.othr (M.runes q) ≤ 100 := by have := HKQ.out; omega
  rw [hq] at HRE HRR
  have hlst : (str (l.drop 0)) = str l := rfl
  obtain ⟨sl, hsl⟩ : ∃ b, str l = b := ⟨_, rfl⟩
  obtain ⟨sq, hsq⟩ : ∃ b, str q = b := ⟨_, rfl⟩
  rw [hsl] at HTXT HRE HRR HRU
  rw [hsq] at HRE HRR HRE2 HRQ
  have HSL := Lib.hid hsl
  have HT := Lib.hid ht
  generalize M.lets (M.runes q) = qa at *
  generalize M.digs (M.runes q) = qb at *
  generalize M.othr (M.runes q) = qc at *
  clear hl hq hqr hqb hqq hqn hrl hlst hsl hsq ht hs
  go_enter Tryz.func5, Tryz.ntmps5
  go_upto_region 6 with (first
    | (go_at_call 17; refine (begun_any _).mono ?_; rintro e w0 ⟨rfl, hb0⟩)
    | (go_at_call 18; (with_reducible refine (HTXT.out _).mono ?_); rintro e w1 ⟨rfl, rfl⟩)
    | (go_at_call 34; (with_reducible refine (HRE.out _).mono ?_); rintro e w2 ⟨rfl, hb2⟩))
  have HB2 := Lib.hid (bel_trans hb0 hb2)
  clear hb0 hb2
  go_upto_region 11 with (first
    | (go_at_call 35; (with_reducible refine (HRR.out _ (HT.out.below HB2.out)).mono ?_); rintro e w3 ⟨rfl, hb3⟩)
    | (go_at_call 36; (with_reducible refine (HRU.out _).mono ?_); rintro e w4 ⟨rfl, hb4⟩))
  have HB4 := Lib.hid (bel_trans HB2.out (bel_trans hb3 hb4))
  clear hb3 hb4 HB2
  go_loopw [10, 11, 12, 13] (fun a b c d wr => ∃ (pos A B D : Nat), d = .string (str (l.drop pos)) ∧ a = .int .i64 A ∧ b = .int .i64 B ∧ c = .int .i64 D ∧ Hid (Below w.heap.size w wr) ∧ Hid (Told l pos A B D) ∧ pos ≤ l.length ∧ A + B + D ≤ pos) (fun _ _ _ d _ => match d with | .string x => x.size | _ => 0)
  case atStart => exact ⟨0, 0, 0, 0, by rw [← HSL.out]; rfl, rfl, rfl, rfl, HB4, Lib.hid ⟨by simp, by simp, by simp, Nat.le_refl _⟩, Nat.zero_le _, Nat.le_refl _⟩
  case round =>
    obtain ⟨pos, A, B, D, rfl, rfl, rfl, rfl, hbw, htold, hpl, hle⟩ := hrel
    have hsz : (str (l.drop pos)).size = l.length - pos := by rw [str_size, List.length_drop]
    by_cases hp : pos < l.length
    · have hne : l.drop pos ≠ [] := by
        intro hh
        have := congrArg List.length hh
        rw [List.length_drop, List.length_nil] at this; omega
      obtain ⟨R, W, hRW⟩ : ∃ R W, Lib.decodeL (l.drop pos) = (R, W) := ⟨_, _, rfl⟩
      have HRN := Lib.hid (fun W' (h : Tab8 W') => refRune_any (l.drop pos) hne W' h)
      rw [hRW] at HRN
      dsimp only at HRN
      have hok := M.decode_ok (l.drop pos)
      rw [hRW] at hok
      have hR31 : R ≤ 1114111 := by unfold M.okRune at hok; dsimp only at hok; omega
      obtain ⟨w1, w2, ht2⟩ := told_step htold.out hp hRW
      have hsl := slice_from (l.drop pos) W (by rw [List.length_drop]; omega)
      rw [List.drop_drop] at hsl
      have hnz : (str (l.drop (pos + W))).size = l.length - (pos + W) := by rw [str_size, List.length_drop]
      have HLT : Hid ((str (l.drop (pos + W))).size < (str (l.drop pos)).size) := Lib.hid (by omega)
      have d2 : decide ((0 : Int) < ((str (l.drop pos)).size : Int)) = true := decide_eq_true (by omega)
      have d3 : 0 < (str (l.drop pos)).size := by omega
      have HT2 := Lib.hid ht2
      have HIL : Hid (M.isLet R = decide (65 ≤ R ∧ R ≤ 90 ∨ 97 ≤ R ∧ R ≤ 122)) := Lib.hid rfl
      have HID : Hid (M.isDig R = decide (48 ≤ R ∧ R ≤ 57)) := Lib.hid rfl
      have HTW := Lib.hid (HT.out.below hbw.out)
      have HW2 := Lib.hid w2; have HW1 := Lib.hid w1
      have hle100 : A ≤ 80 ∧ B ≤ 80 ∧ D ≤ 80 := by omega
      clear hne hRW hok ht2 htold hsz hnz w1 w2
      obtain ⟨sb, hsb⟩ : ∃ b, str (l.drop (pos + W)) = b := ⟨_, rfl⟩
      rw [hsb] at hsl HLT
      have HSB := Lib.hid hsb
      clear hsb
      generalize str (l.drop pos) = sa at *
      go_upto_region 14 with (go_at_call 37; (with_reducible refine (HRN.out _ HTW.out).mono ?_); rintro e w6 ⟨rfl, hb6⟩)
      have HBW := Lib.hid (bel_trans hbw.out hb6)
      clear hb6
      have hcase : (decide ((65 : Int) ≤ (R : Int)) = false ∧ decide ((97 : Int) ≤ (R : Int)) = false ∧ decide ((48 : Int) ≤ (R : Int)) = false ∧ M.isLet R = false ∧ M.isDig R = false) ∨
          (decide ((65 : Int) ≤ (R : Int)) = false ∧ decide ((97 : Int) ≤ (R : Int)) = false ∧ decide ((48 : Int) ≤ (R : Int)) = true ∧ decide ((R : Int) ≤ 57) = true ∧ M.isLet R = false ∧ M.isDig R = true) ∨
          (decide ((65 : Int) ≤ (R : Int)) = false ∧ decide ((97 : Int) ≤ (R : Int)) = false ∧ decide ((48 : Int) ≤ (R : Int)) = true ∧ decide ((R : Int) ≤ 57) = false ∧ M.isLet R = false ∧ M.isDig R = false) ∨
          (decide ((65 : Int) ≤ (R : Int)) = true ∧ decide ((R : Int) ≤ 90) = true ∧ M.isLet R = true) ∨
          (decide ((65 : Int) ≤ (R : Int)) = true ∧ decide ((R : Int) ≤ 90) = false ∧ decide ((97 : Int) ≤ (R : Int)) = false ∧ decide ((48 : Int) ≤ (R : Int)) = true ∧ decide ((R : Int) ≤ 57) = false ∧ M.isLet R = false ∧ M.isDig R = false) ∨
          (decide ((65 : Int) ≤ (R : Int)) = true ∧ decide ((R : Int) ≤ 90) = false ∧ decide ((97 : Int) ≤ (R : Int)) = true ∧ decide ((R : Int) ≤ 122) = true ∧ M.isLet R = true) ∨
          (decide ((65 : Int) ≤ (R : Int)) = true ∧ decide ((R : Int) ≤ 90) = false ∧ decide ((97 : Int) ≤ (R : Int)) = true ∧ decide ((R : Int) ≤ 122) = false ∧ decide ((48 : Int) ≤ (R : Int)) = true ∧ decide ((R : Int) ≤ 57) = false ∧ M.isLet R = false ∧ M.isDig R = false) := by
        rw [HIL.out, HID.out]
        simp only [decide_eq_true_eq, decide_eq_false_iff_not]
        omega
      rcases hcase with ⟨e1, e2, e3, i1, i2⟩ | ⟨e1, e2, e3, e4, i1, i2⟩ | ⟨e1, e2, e3, e4, i1, i2⟩ | ⟨e1, e2, i1⟩ | ⟨e1, e2, e3, e4, e5, i1, i2⟩ | ⟨e1, e2, e3, e4, i1⟩ | ⟨e1, e2, e3, e4, e5, e6, i1, i2⟩
      all_goals
        rw [i1] at HT2
        try rw [i2] at HT2
        simp only [if_true, Bool.false_eq_true, if_false, and_true, and_false, and_self, false_and, true_and, Nat.add_zero, reduceCtorEq] at HT2
        clear i1 HIL HID hbw
        try clear i2
        go_wp2
        refine ⟨⟨pos + W, _, _, _, by rw [HSB.out], ?_, ?_, ?_, HBW, HT2, HW2.out, HT2.out.le⟩, ?_⟩
      all_goals first
        | exact HLT.out
        | rfl
        | go_num
    · have hnil : l.drop pos = [] := List.drop_eq_nil_of_le (by omega)
      obtain ⟨h1, h2, h3, _⟩ := htold.out
      rw [hnil] at h1 h2 h3 ⊢
      have h1' : A = M.lets (M.runes l) := h1
      have h2' : B = M.digs (M.runes l) := h2
      have h3' : D = M.othr (M.runes l) := h3
      have hs0 : str [] = ⟨#[]⟩ := rfl
      have hz0 : ((⟨#[]⟩ : ByteArray).size : Int) = 0 := rfl
      rw [hs0]
      clear h1 h2 h3 hnil hsz htold hs0
      generalize M.lets (M.runes l) = kA at *
      generalize M.digs (M.runes l) = kB at *
      generalize M.othr (M.runes l) = kC at *
      subst h1' h2' h3'
      have d5 : (((qa : Int) + (qb : Int) + (qc : Int)) == max 0 (min most ((A : Int) + (B : Int) + (D : Int)))) = true := by
        have h1 := HKQ.out
        have h2 := HKL.out
        rw [beq_iff_eq]; omega
      have hle80 : A ≤ 80 ∧ B ≤ 80 ∧ D ≤ 80 := by omega
      go_wp2_with (first
        | (go_at_call 36; (with_reducible refine (HRQ.out _).mono ?_); rintro e w7 ⟨rfl, hb7⟩)
        | (go_at_call 34; (with_reducible refine (HRE2.out _).mono ?_); rintro e w8 ⟨rfl, hb8⟩))
      go_ret
      exact ⟨rfl, bel_trans hbw.out (bel_trans hb7 hb8)⟩
end Go.Proofs.YtjbcjcfmjagbkaaGreatDoor
