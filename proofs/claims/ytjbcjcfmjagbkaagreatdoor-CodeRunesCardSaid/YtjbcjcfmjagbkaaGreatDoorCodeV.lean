/-
  The document's runes and reasons.
-/
import Derived.Test.YtjbcjcfmjagbkaaGreatDoorCodeR
import Derived.Test.YtjbcjcfmjagbkaaGreatDoorLawCode
import Derived.Test.YtjbcjcfmjagbkaaGreatDoorCodeI
import Derived.Test.YtjbcjcfmjagbkaaGreatDoorRows
import Derived.Lib.LaidU8
import Derived.MakeChecks
import Derived.Test.YtjbcjcfmjagbkaaGreatDoorCodeD
import Derived.Laws.Cover4
import Derived.Laws.Runes
namespace Go.Proofs.YtjbcjcfmjagbkaaGreatDoor
open Go.ChangeShapes Go.WideShapes Go.ChangeAt Go.RowKit
set_option linter.unusedVariables false
set_option linter.unusedSimpArgs false

/-- The two tables of package utf8. -/
def Tab8 (w : World) : Prop := Lib.Utf8Tabs 2 3 w
theorem cell_lt {w : World} {g i : Nat} {v : Value} (h : w.cell? ⟨g, i, none⟩ = some v) : g < w.heap.size := by
  rcases Nat.lt_or_ge g w.heap.size with h' | h'
  · exact h'
  · simp [World.cell?, Array.getElem?_eq_none h'] at h
theorem Tab8.below {w w' : World} (h : Tab8 w) (hb : Below w.heap.size w w') : Tab8 w' := by
  obtain ⟨h1, h2⟩ := h
  refine ⟨fun c hc => ?_, fun i hi => ⟨?_, ?_⟩⟩
  · have := h1 c hc; rw [hb.cell (cell_lt this)]; exact this
  · have := (h2 i hi).1; rw [hb.cell (cell_lt this)]; exact this
  · have := (h2 i hi).2; rw [hb.cell (cell_lt this)]; exact this
theorem tab8_laid {W : World} {l : List (String × DataW Unit)} (h : laidMet Tryz.prog l W) (h3 : ("unicode/utf8.first", Rows.laid_unicode_utf8_first) ∈ l) (h4 : ("unicode/utf8.acceptRanges", (Rows.laid_unicode_utf8_acceptRanges : DataW Unit)) ∈ l) : Tab8 W := by
  obtain ⟨ps, h, _⟩ := h
  have r3 := Lib.LaidVars_reads h _ _ h3
  have r4 := Lib.LaidVars_reads h _ _ h4
  rw [show Rows.laid_unicode_utf8_first = Lib.firstData by kernel_rfl] at r3
  rw [show (Rows.laid_unicode_utf8_acceptRanges : DataW Unit) = Lib.acceptData by kernel_rfl] at r4
  exact utf8Tabs_of_reads Tryz.lays260 ⟨by kernel_rfl, by kernel_rfl, by kernel_rfl, by kernel_rfl, by kernel_rfl, by kernel_rfl, by kernel_rfl⟩ r3 r4

/-- What is told of a text's beginning. -/
theorem refRune_any (l : List UInt8) (hne : l ≠ []) (w : World) (ht : Tab8 w) :
    Calls Tryz.prog 37 #[.string (str l)] w fun e w' => e = .returned (.tuple #[.int .i32 (Lib.decodeL l).1, .int .i64 (Lib.decodeL l).2]) ∧ Below w.heap.size w w' := by
  have hd : Lib.decodeGo (str l) = Lib.decodeL l := by
    unfold Lib.decodeGo
    rw [if_neg (by rw [str_size]; exact fun e => hne (List.eq_nil_of_length_eq_zero e)), ← Lib.decodeL_drop (str l) 0]
    rfl
  have HD := Lib.hid (fun W (h : Tab8 W) => Tryz.utf8_DecodeRuneInString (str l) W h)
  rw [hd] at HD
  have HT := Lib.hid ht
  generalize str l = s at *
  generalize (Lib.decodeL l).1 = R at *
  generalize (Lib.decodeL l).2 = K at *
  clear hd ht
  go_enter Tryz.func37, Tryz.ntmps37
  go_wp2_with (go_at_call 88; (with_reducible refine (HD.out _ HT.out).mono ?_); rintro e w1 ⟨rfl, hb1⟩)
  go_ret2
  exact ⟨rfl, hb1⟩
theorem enc_str (r : Nat) (h : M.okRune r) : Utf8.encode (r : Int) = str (M.enc r) := by
  have hv : Utf8.valid (r : Int) = true := by
    rw [validRune_eq]; unfold M.okRune at h; simp [validRune]; omega
  unfold M.okRune at h
  unfold M.enc Lib.encodeRune str
  by_cases c1 : r < 128
  · rw [Lib.encodeRuneZ_one (by omega) (by omega)]
    unfold Utf8.encode
    rw [hv]
    simp [c1]
  · by_cases c2 : r < 2048
    · rw [Lib.encodeRuneZ_two (by omega) (by omega)]
      have e0 : (192 + (r : Int) / 64).toNat = 192 + r / 64 := by omega
      have e1 : (128 + (r : Int) % 64).toNat = 128 + r % 64 := by omega
      unfold Utf8.encode
      rw [hv]
      simp [c1, c2, e0, e1]
    · by_cases c3 : r < 65536
      · rw [Lib.encodeRuneZ_three (by omega)]
        have e0 : (224 + (r : Int) / 4096).toNat = 224 + r / 4096 := by omega
        have e1 : (128 + (r : Int) / 64 % 64).toNat = 128 + r / 64 % 64 := by omega
        have e2 : (128 + (r : Int) % 64).toNat = 128 + r % 64 := by omega
        unfold Utf8.encode
        rw [hv]
        simp [c1, c2, c3, e0, e1, e2]
      · rw [Lib.encodeRuneZ_four (by omega) (by omega)]
        have e0 : (240 + (r : Int) / 262144).toNat = 240 + r / 262144 := by omega
        have e1 : (128 + (r : Int) / 4096 % 64).toNat = 128 + r / 4096 % 64 := by omega
        have e2 : (128 + (r : Int) / 64 % 64).toNat = 128 + r / 64 % 64 := by omega
        have e3 : (128 + (r : Int) % 64).toNat = 128 + r % 64 := by omega
        unfold Utf8.encode
        rw [hv]
        simp [c1, c2, c3, e0, e1, e2, e3]
/-- 'string([]rune{r})'. -/
theorem conv_rune (w : World) (r : Nat) (h : M.okRune r) : (convert 111 9 (.slice (some ⟨w.heap.size, 0, none⟩) 1 1)).run Tryz.prog (w.alloc (.cells #[.int .i32 r] 21)) = .ok (.string (str (M.enc r))) (w.alloc (.cells #[.int .i32 r] 21)) := by
  have e := run_convert_runes (P := Tryz.prog) (w.alloc (.cells #[.int .i32 r] 21)) 111 9 21 ⟨w.heap.size, 0, none⟩ 1 1 [(r : Int)] (by simp) Tryz.underlying111 Tryz.underlying21 Tryz.underlying9 (fun j hj => by
    obtain rfl : j = 0 := by simpa using hj
    exact (World.cell?_alloc_mark w _ _ (0, 0) 0).trans (by simp))
  rw [e]
  have e2 : runesBytes ([(r : Int)].take 1) = str (M.enc r) := by
    rw [← enc_str r h]
    show ByteArray.empty ++ Utf8.encode (r : Int) = _
    simp
  rw [e2]

set_option maxHeartbeats 4000000 in
set_option maxRecDepth 100000 in
theorem refReason_any (l : List UInt8) (m : Int) (hl : l.length ≤ 100000) (m1 : -9223372036854775808 ≤ m) (m2 : m ≤ 9223372036854775807) (w : World) (ht : Tab8 w) :
    Calls Tryz.prog 35 #[.string (str l), .int .i64 m] w fun e w' => e = .returned (.string (str (M.reason l m.toNat))) ∧ Below w.heap.size w w' := by
  have HR : Hid (M.reason l m.toNat = rB ((M.runes l).take m.toNat)) := Lib.hid rfl
  have HT := Lib.hid ht
  clear ht
  go_enter Tryz.func35, Tryz.ntmps35
  go_wp2
  go_loopw [0, 5, 6] (fun a b c wr => ∃ (pos : Nat) (acc : List Nat), a = .string (str (l.drop pos)) ∧ b = .string (str (rB acc)) ∧ c = .int .i64 acc.length ∧ Hid (Below w.heap.size w wr) ∧ Hid (acc ++ (M.runes (l.drop pos)).take (m.toNat - acc.length) = (M.runes l).take m.toNat) ∧ acc.length ≤ pos ∧ pos ≤ l.length) (fun _ _ c _ => l.length - (intOf c).toNat)
  case atStart =>
    exact ⟨0, [], rfl, rfl, rfl, Lib.hid (Below.refl _ _), Lib.hid (by simp), Nat.le_refl _, Nat.zero_le _⟩
  case round =>
    obtain ⟨pos, acc, rfl, rfl, rfl, hbw, hacc, hal, hpl⟩ := hrel
    have hrl := rB_len acc
    have hsz : (str (l.drop pos)).size = l.length - pos := by rw [str_size, List.length_drop]
    by_cases hgo : (acc.length : Int) < m ∧ pos < l.length
    · obtain ⟨g1, g2⟩ := hgo
      have hne : l.drop pos ≠ [] := by
        intro hh
        have := congrArg List.length hh
        rw [List.length_drop, List.length_nil] at this; omega
      obtain ⟨R, W, hRW⟩ : ∃ R W, Lib.decodeL (l.drop pos) = (R, W) := ⟨_, _, rfl⟩
      have HRU := Lib.hid (fun W' (h : Tab8 W') => refRune_any (l.drop pos) hne W' h)
      rw [hRW] at HRU
      dsimp only at HRU
      have hok := M.decode_ok (l.drop pos)
      rw [hRW] at hok
      obtain ⟨w1, w2, hst⟩ := reason_step (q := m - acc.length) (by omega) g2 hRW
      have ha := hacc.out
      rw [show m.toNat - acc.length = (m - acc.length).toNat by omega, hst] at ha
      have HA : Hid ((acc ++ [R]) ++ (M.runes (l.drop (pos + W))).take (m.toNat - (acc ++ [R]).length) = (M.runes l).take m.toNat) := Lib.hid (by
        rw [List.append_assoc, List.length_append, List.length_singleton, show m.toNat - (acc.length + 1) = (m - acc.length - 1).toNat by omega]; exact ha)
      have hsl := slice_from (l.drop pos) W (by rw [List.length_drop]; omega)
      rw [List.drop_drop] at hsl
      have hR31 : R ≤ 1114111 := by unfold M.okRune at hok; dsimp only at hok; omega
      have hso := M.shown_ok hok
      have HCV := Lib.hid (fun W' => conv_rune W' (M.shown R) hso)
      have hcat : str (rB acc) ++ str (M.enc (M.shown R)) = str (rB (acc ++ [R])) := by rw [rB_snoc]; exact str_append _ _
      have hel := M.enc_len (M.shown R)
      have hz1 : (str (M.enc (M.shown R))).size ≤ 4 := by rw [str_size]; exact hel.2
      have hz2 : (str (rB acc)).size ≤ 4 * acc.length := by rw [str_size]; exact hrl
      have HSH : Hid (M.shown R = if R < 32 ∨ R = 127 then 32 else R) := Lib.hid rfl
      obtain ⟨n, hn⟩ : ∃ n : Nat, acc.length = n := ⟨_, rfl⟩
      have HN := Lib.hid hn
      have hnl : (acc ++ [R]).length = n + 1 := by rw [List.length_append, hn]; rfl
      have HNL := Lib.hid hnl
      rw [hn] at g1 hal hz2
      have d1 : decide ((n : Int) < m) = true := decide_eq_true g1
      have d2 : decide ((0 : Int) < ((str (l.drop pos)).size : Int)) = true := decide_eq_true (by omega)
      have d3 : 0 < (str (l.drop pos)).size := by omega
      have HW1 := Lib.hid w1; have HW2 := Lib.hid w2; have HG2 := Lib.hid g2
      have HTW := Lib.hid (HT.out.below hbw.out)
      rw [hn]
      clear hne hRW hok hst ha hacc hso hel hrl hn hnl w1 w2 hsz
      generalize str (l.drop pos) = sa at *
      obtain ⟨sb, hsb⟩ : ∃ b, str (l.drop (pos + W)) = b := ⟨_, rfl⟩
      rw [hsb] at hsl
      have HSB := Lib.hid hsb
      clear hsb
      generalize str (rB acc) = oa at *
      generalize str (M.enc (M.shown R)) = se at *
      have hcl : ¬ 9223372036854775807 < oa.size + se.size := by omega
      obtain ⟨Z, hZ⟩ : ∃ Z : Int, ((M.shown R : Nat) : Int) = Z := ⟨_, rfl⟩
      rw [hZ] at HCV
      have HZ := Lib.hid hZ
      have HZ2 : Hid (Z = if R < 32 ∨ R = 127 then 32 else (R : Int)) := Lib.hid (by rw [← hZ, HSH.out]; split <;> rfl)
      clear hZ
      have hcase : ((decide ((R : Int) < 32) = true) ∧ Z = 32) ∨ ((decide ((R : Int) < 32) = false) ∧ ((R : Int) == 127) = true ∧ Z = 32) ∨ ((decide ((R : Int) < 32) = false) ∧ ((R : Int) == 127) = false ∧ Z = (R : Int)) := by
        by_cases h1 : R < 32
        · left; exact ⟨decide_eq_true (by omega), by rw [HZ2.out, if_pos (.inl h1)]⟩
        · by_cases h2 : R = 127
          · right; left; exact ⟨decide_eq_false (by omega), by rw [beq_iff_eq]; omega, by rw [HZ2.out, if_pos (.inr h2)]⟩
          · right; right; exact ⟨decide_eq_false (by omega), by rw [beq_eq_false_iff_ne]; omega, by rw [HZ2.out, if_neg (by omega)]⟩
      rcases hcase with ⟨e1, rfl⟩ | ⟨e1, e2, rfl⟩ | ⟨e1, e2, rfl⟩
      all_goals
        go_upto_region 8 with (go_at_call 37; (with_reducible refine (HRU.out _ HTW.out).mono ?_); rintro e w6 ⟨rfl, hb6⟩)
        have hcv := HCV.out w6
        go_wp2
        refine ⟨⟨pos + W, acc ++ [R], by rw [HSB.out], rfl, ?_, Lib.hid (bel_trans hbw.out (bel_trans hb6 (bel_alloc _ _))), HA, by rw [HNL.out]; have := HW1.out; omega, HW2.out⟩, ?_⟩
        · rw [HNL.out]; go_num
        · simp only [intOf]; have := HG2.out; omega
    · have ha := hacc.out
      have htk : (M.runes (l.drop pos)).take (m.toNat - acc.length) = [] := by
        by_cases g1 : (acc.length : Int) < m
        · have g2 : ¬ pos < l.length := fun h => hgo ⟨g1, h⟩
          rw [List.drop_eq_nil_of_le (by omega), M.runes_nil, List.take_nil]
        · rw [show m.toNat - acc.length = 0 by omega, List.take_zero]
      rw [htk, List.append_nil] at ha
      have HA := Lib.hid ha
      have hcase : (decide ((acc.length : Int) < m) = false) ∨ ((decide ((acc.length : Int) < m) = true) ∧ decide ((0 : Int) < ((str (l.drop pos)).size : Int)) = false ∧ ¬ 0 < (str (l.drop pos)).size) := by
        by_cases g1 : (acc.length : Int) < m
        · right
          have g2 : ¬ pos < l.length := fun h => hgo ⟨g1, h⟩
          exact ⟨decide_eq_true g1, decide_eq_false (by omega), by omega⟩
        · left; exact decide_eq_false g1
      obtain ⟨n, hn⟩ : ∃ n : Nat, acc.length = n := ⟨_, rfl⟩
      rw [hn] at hcase ⊢
      clear hgo ha htk hacc hrl hn hsz hal
      generalize str (l.drop pos) = sa at *
      rcases hcase with e1 | ⟨e1, e2, e3⟩
      · go_wp2
        go_ret
        exact ⟨by rw [HR.out, ← HA.out]; rfl, hbw.out⟩
      · have hs0 : sa.size = 0 := by omega
        go_wp2
        go_ret
        exact ⟨by rw [HR.out, ← HA.out]; rfl, hbw.out⟩
end Go.Proofs.YtjbcjcfmjagbkaaGreatDoor
