/-
  Features, as functions of what is asked for (pure).
  What the functions of package feat come to.
  feat.mayList and feat.May.
  feat.Choose and feat.Default.
  The document's own features: Known, List, bounds, has, May.
  The document's own May.
  The document's own Choose and Default.
  nego.all: each value of a byte that a feature may have.
  The document's own all.
-/
import Derived.Test.YtnhlachoimlhhaaGreatDoorNumA
import Derived.Lib.IndexLaws
import Derived.Test.YtnhlachoimlhhaaGreatDoorShelf
import Derived.Deep.QuietTactic
import Derived.BigQuiet
namespace Go.Proofs.YtnhlachoimlhhaaGreatDoor
open Go.ChangeShapes Go.WideShapes Go.ChangeAt Go.RowKit
set_option linter.unusedVariables false
set_option linter.unusedSimpArgs false

/-- The least and the greatest byte of a feature that a list asks for. -/
def ftSpan (f : Int) : Option (Nat × Nat) := if f = 1 then some (2, 3) else if f = 6 then some (0, 1) else if f = 8 then some (0, 15) else none
def ftKnown (f : Int) : Bool := decide (f = 3) || (ftSpan f).isSome
/-- Bytes between two, all unlike. -/
def FtGood (lo hi : Nat) (l : List UInt8) : Prop := l.Nodup ∧ ∀ b ∈ l, lo ≤ b.toNat ∧ b.toNat ≤ hi
instance (lo hi : Nat) (l : List UInt8) : Decidable (FtGood lo hi l) := by unfold FtGood; infer_instance
theorem FtGood.nil (lo hi : Nat) : FtGood lo hi [] := ⟨List.nodup_nil, fun b hb => by cases hb⟩
theorem FtGood.snoc (lo hi : Nat) (l : List UInt8) (b : UInt8) : FtGood lo hi (l ++ [b]) ↔ FtGood lo hi l ∧ lo ≤ b.toNat ∧ b.toNat ≤ hi ∧ b ∉ l := by
  unfold FtGood
  rw [List.nodup_append]
  constructor
  · rintro ⟨⟨h1, _, h3⟩, h4⟩
    refine ⟨⟨h1, fun c hc => h4 c (List.mem_append.2 (.inl hc))⟩, (h4 b (by simp)).1, (h4 b (by simp)).2, fun hb => h3 b hb b (by simp) rfl⟩
  · rintro ⟨⟨h1, h2⟩, h3, h4, h5⟩
    refine ⟨⟨h1, by simp, fun c hc d hd => ?_⟩, fun c hc => ?_⟩
    · rw [List.mem_singleton.1 hd]
      rintro rfl
      exact h5 hc
    · rcases List.mem_append.1 hc with hc | hc
      · exact h2 c hc
      · rw [List.mem_singleton.1 hc]
        exact ⟨h3, h4⟩
theorem FtGood.take {lo hi : Nat} {l : List UInt8} (h : FtGood lo hi l) (j : Nat) : FtGood lo hi (l.take j) := ⟨h.1.sublist (List.take_sublist _ _), fun b hb => h.2 b (List.mem_of_mem_take hb)⟩
def ftList (lo hi : Nat) (l : List UInt8) : Bool := decide (FtGood lo hi l) && !l.isEmpty
/-- May one ask for l of f? -/
def ftMay (f : Int) (l : List UInt8) : Bool :=
  if f = 3 then decide (l.length = 6) && (decide (32 ≤ beNum l) && decide (beNum l ≤ 1000)) else match ftSpan f with | some (lo, hi) => ftList lo hi l | none => false
/-- What both come to. -/
def ftPick (s c : List UInt8) : Option (List UInt8) := (s.find? fun b => decide (b ∈ c)).map fun b => [b]
def ftChoose (f : Int) (s c : List UInt8) : Option (List UInt8) :=
  if ftMay f c = true then (if f = 3 then some c else if ftMay f s = true then ftPick s c else none) else none
def ftDefault (f : Int) : List UInt8 := if f = 1 then [2] else if f = 6 then [0] else if f = 8 then [0] else if f = 3 then beBytes 6 100 else []
theorem index_in (l : List UInt8) (c : UInt8) : decide (0 ≤ Lib.indexByte l c) = decide (c ∈ l) := by
  induction l with
  | nil => rfl
  | cons b l ih =>
    have h9 := Lib.indexByte_ge l c
    unfold Lib.indexByte
    by_cases hb : b = c
    · subst hb; simp
    · rw [if_neg (by simpa using hb)]
      have hm : (c ∈ b :: l) ↔ c ∈ l := by simp [Ne.symm hb]
      by_cases h8 : Lib.indexByte l c = -1
      · rw [if_pos (by rw [h8]; rfl)]
        rw [h8] at ih
        have h7 : ¬ c ∈ l := by
          intro h6
          rw [decide_eq_true h6] at ih
          exact absurd ih (by decide)
        rw [decide_eq_false (by omega), decide_eq_false (by rw [hm]; exact h7)]
      · rw [if_neg (by simpa using h8)]
        rw [decide_eq_true (by omega : 0 ≤ Lib.indexByte l c)] at ih
        rw [decide_eq_true (by omega), decide_eq_true (by rw [hm]; exact of_decide_eq_true ih.symm)]
theorem filt_len {α : Type} (p : α → Bool) (l : List α) : (l.filter p).length + (l.filter fun b => !p b).length = l.length := by
  induction l with
  | nil => rfl
  | cons b l ih =>
    rw [List.filter_cons, List.filter_cons]
    cases h : p b <;> simp <;> omega
/-- A list of bytes below n, all unlike, has at most n of them. -/
theorem nodup_short : ∀ (n : Nat) (l : List UInt8), l.Nodup → (∀ b ∈ l, b.toNat < n) → l.length ≤ n
  | 0, [], _, _ => Nat.le_refl _
  | 0, b :: l, _, h => absurd (h b (by simp)) (Nat.not_lt_zero _)
  | n + 1, l, hd, h => by
    have h1 := nodup_short n (l.filter fun b => decide (b.toNat ≠ n)) (hd.sublist List.filter_sublist) (fun b hb => by
      have := h b (List.mem_filter.1 hb).1
      have := of_decide_eq_true (List.mem_filter.1 hb).2
      omega)
    have h2 : (l.filter fun b => decide (b.toNat ≠ n)).length + (l.filter fun b => !decide (b.toNat ≠ n)).length = l.length := filt_len _ l
    have h3 : (l.filter fun b => !decide (b.toNat ≠ n)).length ≤ 1 := by
      have hd2 := hd.sublist (List.filter_sublist (l := l) (p := fun b => !decide (b.toNat ≠ n)))
      have hall : ∀ b ∈ l.filter (fun b => !decide (b.toNat ≠ n)), b = UInt8.ofNat n := fun b hb => by
        have h9 := (List.mem_filter.1 hb).2
        have : b.toNat = n := by simpa using h9
        rw [← this]; simp
      match hl : l.filter fun b => !decide (b.toNat ≠ n) with
      | [] => exact Nat.le_trans (Nat.le_of_eq (congrArg List.length hl)) (by decide)
      | [a] => exact Nat.le_trans (Nat.le_of_eq (congrArg List.length hl)) (by simp)
      | a :: b :: r =>
        rw [hl] at hall hd2
        have e : a = b := (hall a (by simp)).trans (hall b (by simp)).symm
        subst e
        simp at hd2
    omega
end Go.Proofs.YtnhlachoimlhhaaGreatDoor

namespace Go.Proofs.YtnhlachoimlhhaaGreatDoor
open Go.ChangeShapes Go.WideShapes Go.ChangeAt Go.RowKit
set_option linter.unusedVariables false
set_option linter.unusedSimpArgs false

def ftLo (f : Int) : Nat := ((ftSpan f).getD (0, 0)).1
def ftHi (f : Int) : Nat := ((ftSpan f).getD (0, 0)).2
theorem ft_cases (f : Int) : (f = 1 ∧ ftSpan f = some (2, 3)) ∨ (f = 6 ∧ ftSpan f = some (0, 1)) ∨ (f = 8 ∧ ftSpan f = some (0, 15)) ∨ (f ≠ 1 ∧ f ≠ 6 ∧ f ≠ 8 ∧ ftSpan f = none) := by
  by_cases h1 : f = 1
  · subst h1; exact .inl ⟨rfl, rfl⟩
  · by_cases h6 : f = 6
    · subst h6; exact .inr (.inl ⟨rfl, rfl⟩)
    · by_cases h8 : f = 8
      · subst h8; exact .inr (.inr (.inl ⟨rfl, rfl⟩))
      · exact .inr (.inr (.inr ⟨h1, h6, h8, by unfold ftSpan; rw [if_neg h1, if_neg h6, if_neg h8]⟩))
theorem ftSpan_any (f : Int) (w : World) : Calls Tryz.prog 126 #[.int .i64 f] w fun e w' => e = .returned (.tuple #[.int .u8 (ftLo f), .int .u8 (ftHi f), .bool (ftSpan f).isSome]) ∧ w = w' := by
  unfold ftLo ftHi
  rcases ft_cases f with ⟨rfl, hs⟩ | ⟨rfl, hs⟩ | ⟨rfl, hs⟩ | ⟨h1, h6, h8, hs⟩
  · rw [hs]
    clear hs
    go_enter Tryz.func126, Tryz.ntmps126
    go_wp2
    go_ret3
    exact ⟨rfl, rfl⟩
  · rw [hs]
    clear hs
    go_enter Tryz.func126, Tryz.ntmps126
    go_wp2
    go_ret3
    exact ⟨rfl, rfl⟩
  · rw [hs]
    clear hs
    go_enter Tryz.func126, Tryz.ntmps126
    go_wp2
    go_ret3
    exact ⟨rfl, rfl⟩
  · rw [hs]
    clear hs
    have b1 : ((f : Int) == 1) = false := by rw [beq_eq_false_iff_ne]; exact h1
    have b6 : ((f : Int) == 6) = false := by rw [beq_eq_false_iff_ne]; exact h6
    have b8 : ((f : Int) == 8) = false := by rw [beq_eq_false_iff_ne]; exact h8
    go_enter Tryz.func126, Tryz.ntmps126
    go_wp2
    go_ret3
    exact ⟨rfl, rfl⟩
theorem ftList_any (f : Int) (w : World) : Calls Tryz.prog 111 #[.int .i64 f] w fun e w' => e = .returned (.bool (ftSpan f).isSome) ∧ w = w' := by
  have HS := Lib.hid (fun W => ftSpan_any f W)
  generalize (ftSpan f).isSome = r at *
  go_enter Tryz.func111, Tryz.ntmps111
  go_wp2_with (go_at_call 126; (with_reducible refine (HS.out _).mono ?_); rintro e w1 ⟨rfl, rfl⟩)
  go_ret
  exact ⟨rfl, rfl⟩
theorem ftKnown_any (f : Int) (w : World) : Calls Tryz.prog 74 #[.int .i64 f] w fun e w' => e = .returned (.bool (ftKnown f)) ∧ w = w' := by
  have HL := Lib.hid (fun W => ftList_any f W)
  unfold ftKnown
  by_cases h : f = 3
  · subst h
    go_enter Tryz.func74, Tryz.ntmps74
    go_wp2_with (go_at_call 111; (with_reducible refine (HL.out _).mono ?_); rintro e w1 ⟨rfl, rfl⟩)
    go_ret
    exact ⟨rfl, rfl⟩
  · have b3 : ((f : Int) == 3) = false := by rw [beq_eq_false_iff_ne]; exact h
    rw [decide_eq_false h, Bool.false_or]
    generalize (ftSpan f).isSome = r at *
    go_enter Tryz.func74, Tryz.ntmps74
    go_wp2_with (go_at_call 111; (with_reducible refine (HL.out _).mono ?_); rintro e w1 ⟨rfl, rfl⟩)
    go_ret
    exact ⟨rfl, rfl⟩
theorem ftWindow_any (l : List UInt8) (hl : l.length ≤ 9223372036854775807) (w : World) : Calls Tryz.prog 125 #[.string (str l)] w fun e w' => e = .returned (.bool (decide (l.length = 6) && (decide (32 ≤ beNum l) && decide (beNum l ≤ 1000)))) ∧ w = w' := by
  have hss : (str l).size = l.length := rfl
  by_cases h : l.length < 1 ∨ 8 < l.length
  · have HN := Lib.hid (fun W => optNumber_no l h hl W)
    rw [decide_eq_false (by omega : ¬ l.length = 6), Bool.false_and]
    generalize str l = s at *
    clear h
    go_enter Tryz.func125, Tryz.ntmps125
    go_wp2_with (go_at_call 157; (with_reducible refine (HN.out _).mono ?_); rintro e w1 ⟨rfl, rfl⟩)
    go_ret
    exact ⟨rfl, rfl⟩
  · have HN := Lib.hid (fun W => optNumber_yes l (by omega) (by omega) W)
    generalize str l = s at *
    generalize beNum l = n at *
    by_cases h6 : l.length = 6
    · have b6 : ((s.size : Int) == 6) = true := by rw [beq_iff_eq]; omega
      rw [decide_eq_true h6, Bool.true_and]
      have e1 : decide ((32 : Int) ≤ (n : Int)) = decide (32 ≤ n) := by rw [decide_eq_decide]; omega
      have e2 : decide ((n : Int) ≤ 1000) = decide (n ≤ 1000) := by rw [decide_eq_decide]; omega
      generalize decide (32 ≤ n) = r1 at *
      generalize decide (n ≤ 1000) = r2 at *
      clear h hl
      cases r1 with
      | true =>
        go_enter Tryz.func125, Tryz.ntmps125
        go_wp2_with (go_at_call 157; (with_reducible refine (HN.out _).mono ?_); rintro e w1 ⟨rfl, rfl⟩)
        go_ret
        exact ⟨rfl, rfl⟩
      | false =>
        go_enter Tryz.func125, Tryz.ntmps125
        go_wp2_with (go_at_call 157; (with_reducible refine (HN.out _).mono ?_); rintro e w1 ⟨rfl, rfl⟩)
        go_ret
        exact ⟨rfl, rfl⟩
    · have b6 : ((s.size : Int) == 6) = false := by rw [beq_eq_false_iff_ne]; omega
      rw [decide_eq_false h6, Bool.false_and]
      clear h hl
      go_enter Tryz.func125, Tryz.ntmps125
      go_wp2_with (go_at_call 157; (with_reducible refine (HN.out _).mono ?_); rintro e w1 ⟨rfl, rfl⟩)
      go_ret
      exact ⟨rfl, rfl⟩
end Go.Proofs.YtnhlachoimlhhaaGreatDoor

namespace Go.Proofs.YtnhlachoimlhhaaGreatDoor
open Go.ChangeShapes Go.WideShapes Go.ChangeAt Go.RowKit
set_option linter.unusedVariables false
set_option linter.unusedSimpArgs false

theorem indexByte_take (l : List UInt8) (j : Nat) (c : UInt8) (W : World) : Calls Tryz.prog 103 #[.string (str (l.take j)), .int .u8 (c.toNat : Int)] W fun e w' => e = .returned (.int .i64 (Lib.indexByte (l.take j) c)) ∧ w' = W := by
  have h := Tryz.strings_IndexByte (str (l.take j)) (c.toNat : Int) W
  rw [show ((c.toNat : Int)).toNat.toUInt8 = c by simp] at h
  exact h
theorem str_pre (l : List UInt8) (j : Nat) (hj : j ≤ l.length) (hl : l.length ≤ 9223372036854775807) (W : World) : (Instr.slice 9 (.string (str l)) none (some (.int .i64 (j : Int))) none).run Tryz.prog W = .ok (.string (str (l.take j))) W := by
  have e : str (l.take j) = (str l).extract 0 j := by
    apply ByteArray.ext
    try rw [ByteArray.data_extract]
    show (l.take j).toArray = l.toArray.extract 0 j
    simp
  have h : (str l).size = l.length := rfl
  rw [e]
  go_simp
  try omega
set_option maxHeartbeats 4000000 in
set_option maxRecDepth 100000 in
theorem ftMayList_any (l : List UInt8) (hl : l.length ≤ 9223372036854775807) (lo hi : Nat) (hlo : lo < 256) (hhi : hi < 256) (w : World) :
    Calls Tryz.prog 127 #[.string (str l), .int .u8 lo, .int .u8 hi] w fun e w' => e = .returned (.bool (ftList lo hi l)) ∧ ∃ n, w' = w.drewN n := by
  have hss : (str l).size = l.length := rfl
  have HSL := Lib.hid (fun j (hj : j ≤ l.length) W => str_pre l j hj hl W)
  obtain ⟨s, hs⟩ : ∃ s, str l = s := ⟨_, rfl⟩
  have hbt : ∀ i (h : i < s.size), (l.take (i + 1)) = l.take i ++ [s[i]] := by
    subst hs
    intro i h
    exact M.bytes_take (str l) i h
  have hne : s.toList.isEmpty = l.isEmpty := by rw [Lib.toList_data, ← hs]; rfl
  rw [hs] at hss HSL ⊢
  have HSS := Lib.hid hss; have HBT := Lib.hid hbt; have HNE := Lib.hid hne
  have hsl : s.size ≤ 9223372036854775807 := by omega
  clear hs hss hbt hne hl
  go_enter Tryz.func127, Tryz.ntmps127
  go_wp2
  go_loopw [10] (fun iv wr => ∃ j n : Nat, iv = .int .i64 (j : Int) ∧ j ≤ s.size ∧ Hid (FtGood lo hi (l.take j)) ∧ Hid (wr = w.drewN n)) (fun iv _ => s.size - (intOf iv).toNat)
  case atStart => exact ⟨0, 0, rfl, Nat.zero_le _, Lib.hid (FtGood.nil _ _), Lib.hid rfl⟩
  case round =>
    obtain ⟨j, n, rfl, hj, hg, hwr⟩ := hrel
    by_cases hjk : j < s.size
    · have hsn := FtGood.snoc lo hi (l.take j) s[j]
      rw [← HBT.out j hjk] at hsn
      have hno : ¬ FtGood lo hi (l.take (j + 1)) → ftList lo hi l = false := fun h => by
        unfold ftList
        rw [decide_eq_false (fun h9 => h (h9.take _)), Bool.false_and]
      have hb2 : (s[j]).toNat < 256 := (s[j]).toNat_lt
      have HIX := Lib.hid (fun W => indexByte_take l j s[j] W)
      have hin := index_in (l.take j) s[j]
      have HS1 := Lib.hid (HSL.out j (by rw [← HSS.out]; omega))
      generalize Lib.indexByte (l.take j) s[j] = q at *
      have HNO := Lib.hid hno
      have HSN := Lib.hid hsn
      have hsl1 := HS1.out
      have d9 : decide ((j : Int) < (s.size : Int)) = true := decide_eq_true (by omega)
      clear hno hsn HSL
      by_cases c1 : (s[j]).toNat < lo
      · have d1 : decide (((s[j]).toNat : Int) < (lo : Int)) = true := decide_eq_true (by omega)
        go_wp2
        go_quiet (fail)
        go_wp2
        go_ret
        exact ⟨by rw [HNO.out (fun h => by have := HSN.out.1 h; omega)]; rfl, n + nq, by rw [hwr.out]; first | rfl | exact World.drewN_drewN _ _ _ | exact (World.drewN_drewN _ _ _).symm⟩
      · have d1 : decide (((s[j]).toNat : Int) < (lo : Int)) = false := decide_eq_false (by omega)
        by_cases c2 : hi < (s[j]).toNat
        · have d2 : decide ((hi : Int) < ((s[j]).toNat : Int)) = true := decide_eq_true (by omega)
          go_wp2
          go_quiet (fail)
          go_wp2
          go_ret
          exact ⟨by rw [HNO.out (fun h => by have := HSN.out.1 h; omega)]; rfl, n + nq, by rw [hwr.out]; first | rfl | exact World.drewN_drewN _ _ _ | exact (World.drewN_drewN _ _ _).symm⟩
        · have d2 : decide ((hi : Int) < ((s[j]).toNat : Int)) = false := decide_eq_false (by omega)
          by_cases c3 : s[j] ∈ l.take j
          · rw [decide_eq_true c3] at hin
            go_wp2
            go_quiet ((go_at_call 103; go_loud (exact Calls.quiet_of_same (HIX.out _))))
            go_wp2
            go_ret
            exact ⟨by rw [HNO.out (fun h => (HSN.out.1 h).2.2.2 c3)]; rfl, n + nq, by rw [hwr.out]; first | rfl | exact World.drewN_drewN _ _ _ | exact (World.drewN_drewN _ _ _).symm⟩
          · rw [decide_eq_false c3] at hin
            have HG2 : Hid (FtGood lo hi (l.take (j + 1))) := Lib.hid (HSN.out.2 ⟨hg.out, by omega, by omega, c3⟩)
            clear c3
            go_wp2
            go_quiet ((go_at_call 103; go_loud (exact Calls.quiet_of_same (HIX.out _))))
            go_wp2
            refine ⟨⟨j + 1, n + nq, by go_num, by omega, HG2, Lib.hid (by rw [hwr.out]; first | rfl | exact World.drewN_drewN _ _ _ | exact (World.drewN_drewN _ _ _).symm)⟩, ?_⟩
            simp [intOf]; omega
    · obtain rfl : j = s.size := by omega
      have hall : FtGood lo hi l := by
        have h9 := hg.out
        rw [HSS.out, List.take_length] at h9
        exact h9
      have hr : ftList lo hi l = !l.isEmpty := by unfold ftList; rw [decide_eq_true hall, Bool.true_and]
      have d9 : decide ((s.size : Int) < (s.size : Int)) = false := decide_eq_false (by omega)
      have HR := Lib.hid hr
      clear hall hr hg
      go_wp2
      go_ret
      exact ⟨by rw [HR.out, ← HNE.out]; rfl, n, hwr.out⟩
theorem ftMay_any (f : Int) (l : List UInt8) (hl : l.length ≤ 9223372036854775807) (w : World) :
    Calls Tryz.prog 102 #[.int .i64 f, .string (str l)] w fun e w' => e = .returned (.bool (ftMay f l)) ∧ ∃ n, w' = w.drewN n := by
  unfold ftMay
  by_cases h : f = 3
  · subst h
    have HW := Lib.hid (fun W => ftWindow_any l hl W)
    rw [if_pos rfl]
    generalize (decide (l.length = 6) && (decide (32 ≤ beNum l) && decide (beNum l ≤ 1000))) = r at *
    generalize str l = s at *
    go_enter Tryz.func102, Tryz.ntmps102
    go_wp2_with (go_at_call 125; (with_reducible refine (HW.out _).mono ?_); rintro e w1 ⟨rfl, rfl⟩)
    go_ret
    exact ⟨rfl, 0, rfl⟩
  · have b3 : ((f : Int) == 3) = false := by rw [beq_eq_false_iff_ne]; exact h
    have HS := Lib.hid (fun W => ftSpan_any f W)
    rw [if_neg h]
    have hlo : ftLo f < 256 ∧ ftHi f < 256 := by
      unfold ftLo ftHi
      rcases ft_cases f with ⟨_, hs⟩ | ⟨_, hs⟩ | ⟨_, hs⟩ | ⟨_, _, _, hs⟩ <;> rw [hs] <;> decide
    have HL := Lib.hid (fun W => ftMayList_any l hl (ftLo f) (ftHi f) hlo.1 hlo.2 W)
    unfold ftLo ftHi at HS HL
    cases hsp : ftSpan f with
    | none =>
      rw [hsp] at HS
      have HS' : Hid (∀ W, Calls Tryz.prog 126 #[.int .i64 f] W fun e w' => e = .returned (.tuple #[.int .u8 0, .int .u8 0, .bool false]) ∧ W = w') := Lib.hid HS.out
      clear HS HL hsp hlo
      show Calls _ _ _ _ fun e w' => e = .returned (.bool false) ∧ ∃ n, w' = w.drewN n
      generalize str l = s at *
      go_enter Tryz.func102, Tryz.ntmps102
      go_wp2_with (go_at_call 126; (with_reducible refine (HS'.out _).mono ?_); rintro e w1 ⟨rfl, rfl⟩)
      go_ret
      exact ⟨rfl, 0, rfl⟩
    | some p =>
      obtain ⟨lo, hi⟩ := p
      rw [hsp] at HS HL
      have HS' : Hid (∀ W, Calls Tryz.prog 126 #[.int .i64 f] W fun e w' => e = .returned (.tuple #[.int .u8 lo, .int .u8 hi, .bool true]) ∧ W = w') := Lib.hid HS.out
      have HL' : Hid (∀ W, Calls Tryz.prog 127 #[.string (str l), .int .u8 lo, .int .u8 hi] W fun e w' => e = .returned (.bool (ftList lo hi l)) ∧ ∃ n, w' = W.drewN n) := Lib.hid HL.out
      clear HS HL hsp hlo
      show Calls _ _ _ _ fun e w' => e = .returned (.bool (ftList lo hi l)) ∧ ∃ n, w' = w.drewN n
      generalize ftList lo hi l = r at *
      generalize str l = s at *
      go_enter Tryz.func102, Tryz.ntmps102
      go_wp2_with (first
        | (go_at_call 126; (with_reducible refine (HS'.out _).mono ?_); rintro e w1 ⟨rfl, rfl⟩)
        | (go_at_call 127; (with_reducible refine (HL'.out _).mono ?_); rintro e w2 ⟨rfl, n, rfl⟩))
      go_ret
      exact ⟨rfl, n, rfl⟩
end Go.Proofs.YtnhlachoimlhhaaGreatDoor

namespace Go.Proofs.YtnhlachoimlhhaaGreatDoor
open Go.ChangeShapes Go.WideShapes Go.ChangeAt Go.RowKit
set_option linter.unusedVariables false
set_option linter.unusedSimpArgs false

theorem indexByte_all (l : List UInt8) (c : UInt8) (W : World) : Calls Tryz.prog 103 #[.string (str l), .int .u8 (c.toNat : Int)] W fun e w' => e = .returned (.int .i64 (Lib.indexByte l c)) ∧ w' = W := by
  have h := Tryz.strings_IndexByte (str l) (c.toNat : Int) W
  rw [show ((c.toNat : Int)).toNat.toUInt8 = c by simp] at h
  exact h
set_option maxRecDepth 100000 in
theorem str_cut (l : List UInt8) (a b : Nat) : (str l).extract a b = str ((l.take b).drop a) := by
  apply ByteArray.ext
  apply Array.toList_inj.1
  rw [Lib.extract_data]
  show List.take (b - a) (List.drop a l) = List.drop a (List.take b l)
  rw [List.drop_take]
set_option maxRecDepth 100000 in
/-- A byte of a text, as a text. -/
theorem str_one (l : List UInt8) (j : Nat) (hj : j < l.length) (hl : l.length ≤ 9223372036854775807) (b : UInt8) (hb : l.take (j + 1) = l.take j ++ [b]) (W : World) : (Instr.slice 9 (.string (str l)) (some (.int .i64 (j : Int))) (some (.int .i64 ((j : Int) + 1))) none).run Tryz.prog W = .ok (.string (str [b])) W := by
  have h : (str l).size = l.length := rfl
  have e : str [b] = (str l).extract j (j + 1) := by
    rw [str_cut, hb, List.drop_append_of_le_length (by rw [List.length_take]; omega), List.drop_eq_nil_of_le (by rw [List.length_take]; omega)]
    rfl
  have e2 : ((j : Int) + 1) = ((j + 1 : Nat) : Int) := by omega
  rw [e, e2]
  clear e e2 hb
  have h3 : j ≤ j + 1 := Nat.le_succ j
  have h4 : j + 1 ≤ l.length := hj
  generalize j + 1 = j2 at *
  go_simp
  try omega
theorem ftPick_at (s c : List UInt8) (j : Nat) (x : UInt8) (h1 : s.take (j + 1) = s.take j ++ [x]) (h : ∀ b ∈ s.take j, b ∉ c) (hx : x ∈ c) : ftPick s c = some [x] := by
  have e : s = s.take j ++ x :: s.drop (j + 1) := by
    conv => lhs; rw [← List.take_append_drop (j + 1) s, h1]
    simp
  unfold ftPick
  rw [e, List.find?_append, List.find?_eq_none.2 (fun b hb => by simp; exact h b hb), Option.none_or, List.find?_cons_of_pos (by simp [hx])]
  rfl
theorem ftPick_none (s c : List UInt8) (h : ∀ b ∈ s, b ∉ c) : ftPick s c = none := by
  unfold ftPick
  rw [List.find?_eq_none.2 (fun b hb => by simp; exact h b hb)]
  rfl
def ftRet (o : Option (List UInt8)) : Value := .tuple #[.string (str (o.getD [])), .bool o.isSome]
set_option maxHeartbeats 4000000 in
set_option maxRecDepth 100000 in
theorem ftChoose_any (f : Int) (l c : List UInt8) (hl : l.length ≤ 9223372036854775807) (hc : c.length ≤ 9223372036854775807) (w : World) :
    Calls Tryz.prog 60 #[.int .i64 f, .string (str l), .string (str c)] w fun e w' => e = .returned (ftRet (ftChoose f l c)) ∧ ∃ n, w' = w.drewN n := by
  have HM1 := Lib.hid (fun W => ftMay_any f c hc W)
  have HM2 := Lib.hid (fun W => ftMay_any f l hl W)
  have HIX := Lib.hid (fun b W => indexByte_all c b W)
  obtain ⟨r, hr⟩ : ∃ r, ftChoose f l c = r := ⟨_, rfl⟩
  unfold ftChoose at hr
  rw [show ftChoose f l c = r by unfold ftChoose; exact hr]
  obtain ⟨m1, hm1⟩ : ∃ m1, ftMay f c = m1 := ⟨_, rfl⟩
  obtain ⟨m2, hm2⟩ : ∃ m2, ftMay f l = m2 := ⟨_, rfl⟩
  rw [hm1] at HM1
  rw [hm2] at HM2
  rw [hm1, hm2] at hr
  clear hm1 hm2
  cases m1 with
  | false =>
    rw [if_neg (by decide)] at hr
    subst hr
    clear HM2 HIX
    go_enter Tryz.func60, Tryz.ntmps60
    go_wp2_with (go_at_call 102; (with_reducible refine (HM1.out _).mono ?_); rintro e w1 ⟨rfl, n, rfl⟩)
    go_ret2
    exact ⟨rfl, n, rfl⟩
  | true =>
    rw [if_pos rfl] at hr
    by_cases h3 : f = 3
    · subst h3
      rw [if_pos rfl] at hr
      subst hr
      clear HM2 HIX
      go_enter Tryz.func60, Tryz.ntmps60
      go_wp2_with (go_at_call 102; (with_reducible refine (HM1.out _).mono ?_); rintro e w1 ⟨rfl, n, rfl⟩)
      go_ret2
      exact ⟨rfl, n, rfl⟩
    · rw [if_neg h3] at hr
      have b3 : ((f : Int) == 3) = false := by rw [beq_eq_false_iff_ne]; exact h3
      cases m2 with
      | false =>
        rw [if_neg (by decide)] at hr
        subst hr
        clear HIX
        have hx : (str l == str c) = (str l == str c) := rfl
        go_enter Tryz.func60, Tryz.ntmps60
        go_wp2_with (go_at_call 102; (first
          | ((with_reducible refine (HM1.out _).mono ?_); rintro e w1 ⟨rfl, n, rfl⟩)
          | ((with_reducible refine (HM2.out _).mono ?_); rintro e w2 ⟨rfl, n2, rfl⟩)))
        go_ret2
        exact ⟨rfl, n + n2, by first | rfl | exact World.drewN_drewN _ _ _ | exact (World.drewN_drewN _ _ _).symm⟩
      | true =>
        rw [if_pos rfl] at hr
        have HR := Lib.hid hr
        have HSL := Lib.hid (fun j hj b hb W => str_one l j hj hl b hb W)
        have hss : (str l).size = l.length := rfl
        obtain ⟨s, hs⟩ : ∃ s, str l = s := ⟨_, rfl⟩
        have hbt : ∀ i (h : i < s.size), (l.take (i + 1)) = l.take i ++ [s[i]] := by
          subst hs
          intro i h
          exact M.bytes_take (str l) i h
        have HSL2 : Hid (∀ j (hj : j < s.size) W, (Instr.slice 9 (.string s) (some (.int .i64 (j : Int))) (some (.int .i64 ((j : Int) + 1))) none).run Tryz.prog W = .ok (.string (str [s[j]])) W) := Lib.hid (fun j hj W => by have h9 := HSL.out j (by have h8 : s.size = l.length := (congrArg ByteArray.size hs).symm; omega) s[j] (hbt j hj) W; rw [hs] at h9; exact h9)
        rw [hs] at hss HM2 ⊢
        have HSS := Lib.hid hss; have HBT := Lib.hid hbt
        have hsl : s.size ≤ 9223372036854775807 := by omega
        obtain ⟨cs, hcs⟩ : ∃ cs, str c = cs := ⟨_, rfl⟩
        rw [hcs] at HM1 HIX ⊢
        clear hs hss hbt hl hr HSL hcs
        go_enter Tryz.func60, Tryz.ntmps60
        go_wp2_with (go_at_call 102; (first
          | ((with_reducible refine (HM1.out _).mono ?_); rintro e w1 ⟨rfl, n, rfl⟩)
          | ((with_reducible refine (HM2.out _).mono ?_); rintro e w2 ⟨rfl, n2, rfl⟩)))
        have HV : Hid (∃ q, w.drewN (n + n2) = w.drewN q) := Lib.hid ⟨n + n2, rfl⟩
        generalize w.drewN (n + n2) = V at *
        clear HM1 HM2
        go_loopw [22] (fun iv wr => ∃ j : Nat, iv = .int .i64 (j : Int) ∧ j ≤ s.size ∧ Hid (∀ b ∈ l.take j, b ∉ c) ∧ Hid (∃ q, wr = w.drewN q)) (fun iv _ => s.size - (intOf iv).toNat)
        case atStart => exact ⟨0, rfl, Nat.zero_le _, Lib.hid (by intro b hb; simp at hb), HV⟩
        case round =>
          obtain ⟨j, rfl, hj, hg, hwr⟩ := hrel
          by_cases hjk : j < s.size
          · have d9 : decide ((j : Int) < (s.size : Int)) = true := decide_eq_true (by omega)
            have HIX1 := Lib.hid (HIX.out s[j])
            have hin := index_in c s[j]
            have hsl1 := HSL2.out j hjk
            have HB1 := Lib.hid (HBT.out j hjk)
            generalize Lib.indexByte c s[j] = q at *
            by_cases c3 : s[j] ∈ c
            · rw [decide_eq_true c3] at hin
              have HP := Lib.hid (ftPick_at l c j s[j] HB1.out hg.out c3)
              clear c3
              go_wp2_with (go_at_call 103; (with_reducible refine (HIX1.out _).mono ?_); rintro e w3 ⟨rfl, rfl⟩)
              go_ret2
              exact ⟨by rw [← HR.out, HP.out]; rfl, hwr.out⟩
            · rw [decide_eq_false c3] at hin
              have HG2 : Hid (∀ b ∈ l.take (j + 1), b ∉ c) := Lib.hid (fun b hb => by
                rw [HB1.out] at hb
                rcases List.mem_append.1 hb with hb | hb
                · exact hg.out b hb
                · rw [List.mem_singleton.1 hb]; exact c3)
              clear c3 hsl1
              go_wp2_with (go_at_call 103; (with_reducible refine (HIX1.out _).mono ?_); rintro e w3 ⟨rfl, rfl⟩)
              refine ⟨⟨j + 1, by go_num, by omega, HG2, hwr⟩, ?_⟩
              simp [intOf]; omega
          · obtain rfl : j = s.size := by omega
            have d9 : decide ((s.size : Int) < (s.size : Int)) = false := decide_eq_false (by omega)
            have HP : Hid (ftPick l c = none) := Lib.hid (ftPick_none l c (by
              have h9 := hg.out
              rw [HSS.out, List.take_length] at h9
              exact h9))
            go_wp2
            go_ret2
            exact ⟨by rw [← HR.out, HP.out]; rfl, hwr.out⟩
theorem ftDefault_any (f : Int) (w : World) : Calls Tryz.prog 47 #[.int .i64 f] w fun e w' => e = .returned (.string (str (ftDefault f))) ∧ Below w.heap.size w w' := by
  have HB : Hid (∀ W, Calls Tryz.prog 89 #[.int .u64 100, .int .i64 6] W fun e w' => e = .returned (.string (str (beBytes 6 100))) ∧ Below W.heap.size W w') := Lib.hid (fun W => optBytes_yes 100 6 (by decide) (by decide) (by decide) W)
  unfold ftDefault
  by_cases h1 : f = 1
  · subst h1
    go_enter Tryz.func47, Tryz.ntmps47
    go_wp2
    go_ret
    exact ⟨rfl, Below.refl _ _⟩
  · by_cases h6 : f = 6
    · subst h6
      go_enter Tryz.func47, Tryz.ntmps47
      go_wp2
      go_ret
      exact ⟨rfl, Below.refl _ _⟩
    · by_cases h8 : f = 8
      · subst h8
        go_enter Tryz.func47, Tryz.ntmps47
        go_wp2
        go_ret
        exact ⟨rfl, Below.refl _ _⟩
      · rw [if_neg h1, if_neg h6, if_neg h8]
        have b1 : ((f : Int) == 1) = false := by rw [beq_eq_false_iff_ne]; exact h1
        have b6 : ((f : Int) == 6) = false := by rw [beq_eq_false_iff_ne]; exact h6
        have b8 : ((f : Int) == 8) = false := by rw [beq_eq_false_iff_ne]; exact h8
        by_cases h3 : f = 3
        · subst h3
          rw [if_pos rfl]
          generalize str (beBytes 6 100) = s at *
          go_enter Tryz.func47, Tryz.ntmps47
          go_wp2_with (go_at_call 89; (with_reducible refine (HB.out _).mono ?_); rintro e w1 ⟨rfl, h9⟩)
          go_ret
          exact ⟨rfl, h9⟩
        · rw [if_neg h3]
          have b3 : ((f : Int) == 3) = false := by rw [beq_eq_false_iff_ne]; exact h3
          go_enter Tryz.func47, Tryz.ntmps47
          go_wp2
          go_ret
          exact ⟨rfl, Below.refl _ _⟩
end Go.Proofs.YtnhlachoimlhhaaGreatDoor

namespace Go.Proofs.YtnhlachoimlhhaaGreatDoor
open Go.ChangeShapes Go.WideShapes Go.ChangeAt Go.RowKit
set_option linter.unusedVariables false
set_option linter.unusedSimpArgs false

theorem ft_kinds (f : Int) : f = 1 ∨ f = 3 ∨ f = 6 ∨ f = 8 ∨ (f ≠ 1 ∧ f ≠ 3 ∧ f ≠ 6 ∧ f ≠ 8) := by omega
theorem ftSpan_out {f : Int} (h1 : f ≠ 1) (h6 : f ≠ 6) (h8 : f ≠ 8) : ftSpan f = none := by unfold ftSpan; rw [if_neg h1, if_neg h6, if_neg h8]
theorem rfKnown_any (f : Int) (w : World) : Calls Tryz.prog 68 #[.int .i64 f] w fun e w' => e = .returned (.bool (ftKnown f)) ∧ w = w' := by
  rcases ft_kinds f with rfl | rfl | rfl | rfl | ⟨h1, h3, h6, h8⟩
  · go_enter Tryz.func68, Tryz.ntmps68
    go_wp2
    go_ret
    exact ⟨rfl, rfl⟩
  · go_enter Tryz.func68, Tryz.ntmps68
    go_wp2
    go_ret
    exact ⟨rfl, rfl⟩
  · go_enter Tryz.func68, Tryz.ntmps68
    go_wp2
    go_ret
    exact ⟨rfl, rfl⟩
  · go_enter Tryz.func68, Tryz.ntmps68
    go_wp2
    go_ret
    exact ⟨rfl, rfl⟩
  · have b1 : ((f : Int) == 1) = false := by rw [beq_eq_false_iff_ne]; exact h1
    have b3 : ((f : Int) == 3) = false := by rw [beq_eq_false_iff_ne]; exact h3
    have b6 : ((f : Int) == 6) = false := by rw [beq_eq_false_iff_ne]; exact h6
    have b8 : ((f : Int) == 8) = false := by rw [beq_eq_false_iff_ne]; exact h8
    have hk : ftKnown f = false := by unfold ftKnown; rw [ftSpan_out h1 h6 h8, decide_eq_false h3]; rfl
    rw [hk]
    clear hk
    go_enter Tryz.func68, Tryz.ntmps68
    go_wp2
    go_ret
    exact ⟨rfl, rfl⟩
theorem rfList_any (f : Int) (w : World) : Calls Tryz.prog 65 #[.int .i64 f] w fun e w' => e = .returned (.bool (ftSpan f).isSome) ∧ w = w' := by
  have HK := Lib.hid (fun W => rfKnown_any f W)
  rcases ft_kinds f with rfl | rfl | rfl | rfl | ⟨h1, h3, h6, h8⟩
  · have HK' : Hid (∀ W, Calls Tryz.prog 68 #[.int .i64 1] W fun e w' => e = .returned (.bool true) ∧ W = w') := Lib.hid HK.out
    go_enter Tryz.func65, Tryz.ntmps65
    go_wp2_with (go_at_call 68; (with_reducible refine (HK'.out _).mono ?_); rintro e w1 ⟨rfl, rfl⟩)
    go_ret
    exact ⟨rfl, rfl⟩
  · have HK' : Hid (∀ W, Calls Tryz.prog 68 #[.int .i64 3] W fun e w' => e = .returned (.bool true) ∧ W = w') := Lib.hid HK.out
    go_enter Tryz.func65, Tryz.ntmps65
    go_wp2_with (go_at_call 68; (with_reducible refine (HK'.out _).mono ?_); rintro e w1 ⟨rfl, rfl⟩)
    go_ret
    exact ⟨rfl, rfl⟩
  · have HK' : Hid (∀ W, Calls Tryz.prog 68 #[.int .i64 6] W fun e w' => e = .returned (.bool true) ∧ W = w') := Lib.hid HK.out
    go_enter Tryz.func65, Tryz.ntmps65
    go_wp2_with (go_at_call 68; (with_reducible refine (HK'.out _).mono ?_); rintro e w1 ⟨rfl, rfl⟩)
    go_ret
    exact ⟨rfl, rfl⟩
  · have HK' : Hid (∀ W, Calls Tryz.prog 68 #[.int .i64 8] W fun e w' => e = .returned (.bool true) ∧ W = w') := Lib.hid HK.out
    go_enter Tryz.func65, Tryz.ntmps65
    go_wp2_with (go_at_call 68; (with_reducible refine (HK'.out _).mono ?_); rintro e w1 ⟨rfl, rfl⟩)
    go_ret
    exact ⟨rfl, rfl⟩
  · have hk : ftKnown f = false := by unfold ftKnown; rw [ftSpan_out h1 h6 h8, decide_eq_false h3]; rfl
    rw [hk] at HK
    rw [ftSpan_out h1 h6 h8]
    clear hk
    go_enter Tryz.func65, Tryz.ntmps65
    go_wp2_with (go_at_call 68; (with_reducible refine (HK.out _).mono ?_); rintro e w1 ⟨rfl, rfl⟩)
    go_ret
    exact ⟨rfl, rfl⟩
/-- The bounds of a list's bytes, and how many it has. -/
def rfBounds (f : Int) : Nat × Nat × Nat := if f = 1 then (2, 3, 4) else if f = 6 then (0, 1, 4) else (0, 15, 16)
theorem rfBounds_any (f : Int) (w : World) : Calls Tryz.prog 106 #[.int .i64 f] w fun e w' => e = .returned (.tuple #[.int .u8 (rfBounds f).1, .int .u8 (rfBounds f).2.1, .int .i64 (rfBounds f).2.2]) ∧ w = w' := by
  unfold rfBounds
  by_cases h1 : f = 1
  · subst h1
    go_enter Tryz.func106, Tryz.ntmps106
    go_wp2
    go_ret3
    exact ⟨rfl, rfl⟩
  · by_cases h6 : f = 6
    · subst h6
      go_enter Tryz.func106, Tryz.ntmps106
      go_wp2
      go_ret3
      exact ⟨rfl, rfl⟩
    · rw [if_neg h1, if_neg h6]
      have b1 : ((f : Int) == 1) = false := by rw [beq_eq_false_iff_ne]; exact h1
      have b6 : ((f : Int) == 6) = false := by rw [beq_eq_false_iff_ne]; exact h6
      go_enter Tryz.func106, Tryz.ntmps106
      go_wp2
      go_ret3
      exact ⟨rfl, rfl⟩
theorem rfHas_any (l : List UInt8) (hl : l.length ≤ 9223372036854775807) (c : UInt8) (w : World) :
    Calls Tryz.prog 110 #[.string (str l), .int .u8 (c.toNat : Int)] w fun e w' => e = .returned (.bool (decide (c ∈ l))) ∧ w = w' := by
  have hss : (str l).size = l.length := rfl
  have hbt : ∀ i (h : i < (str l).size), (l.take (i + 1)) = l.take i ++ [(str l)[i]] := fun i h => M.bytes_take (str l) i h
  generalize str l = s at *
  have HSS := Lib.hid hss; have HBT := Lib.hid hbt
  have hsl : s.size ≤ 9223372036854775807 := by omega
  clear hss hbt hl
  go_enter Tryz.func110, Tryz.ntmps110
  go_wp2
  go_loop [5] (fun iv => ∃ j : Nat, iv = .int .i64 (j : Int) ∧ j ≤ s.size ∧ Hid (c ∉ l.take j)) (fun iv => s.size - (intOf iv).toNat)
  case atStart => exact ⟨0, rfl, Nat.zero_le _, Lib.hid (by simp)⟩
  case round =>
    obtain ⟨j, rfl, hj, hg⟩ := hrel
    by_cases hjk : j < s.size
    · have d9 : decide ((j : Int) < (s.size : Int)) = true := decide_eq_true (by omega)
      have HB := Lib.hid (HBT.out j hjk)
      by_cases he : s[j] = c
      · have b8 : (((s[j]).toNat : Int) == (c.toNat : Int)) = true := by rw [he, beq_iff_eq]
        have HIN : Hid (decide (c ∈ l) = true) := Lib.hid (decide_eq_true (by
          have h9 : c ∈ l.take (j + 1) := by rw [HB.out, he]; simp
          exact List.mem_of_mem_take h9))
        clear he
        go_wp2
        go_ret
        exact ⟨by rw [HIN.out]; rfl, rfl⟩
      · have b8 : (((s[j]).toNat : Int) == (c.toNat : Int)) = false := by
          rw [beq_eq_false_iff_ne]
          intro h9
          exact he (UInt8.toNat_inj.1 (by omega))
        have HG2 : Hid (c ∉ l.take (j + 1)) := Lib.hid (by
          rw [HB.out]
          intro h9
          rcases List.mem_append.1 h9 with h9 | h9
          · exact hg.out h9
          · exact he (List.mem_singleton.1 h9).symm)
        clear he
        go_wp2
        go_round
        case rel => exact ⟨j + 1, by go_num, by omega, HG2⟩
        case measure => simp [intOf]; omega
    · obtain rfl : j = s.size := by omega
      have d9 : decide ((s.size : Int) < (s.size : Int)) = false := decide_eq_false (by omega)
      have HIN : Hid (decide (c ∈ l) = false) := Lib.hid (decide_eq_false (by
        have h9 := hg.out
        rw [HSS.out, List.take_length] at h9
        exact h9))
      go_wp2
      go_ret
      exact ⟨by rw [HIN.out]; rfl, rfl⟩
end Go.Proofs.YtnhlachoimlhhaaGreatDoor

namespace Go.Proofs.YtnhlachoimlhhaaGreatDoor
open Go.ChangeShapes Go.WideShapes Go.ChangeAt Go.RowKit
set_option linter.unusedVariables false
set_option linter.unusedSimpArgs false

theorem ft_lists (f : Int) : (ftKnown f = false ∧ f ≠ 3 ∧ ftSpan f = none) ∨ (f = 3) ∨ (f ≠ 3 ∧ ftKnown f = true ∧ ∃ lo hi most, ftSpan f = some (lo, hi) ∧ rfBounds f = (lo, hi, most) ∧ hi < most ∧ most ≤ 16 ∧ lo < 256) := by
  rcases ft_kinds f with rfl | rfl | rfl | rfl | ⟨h1, h3, h6, h8⟩
  · exact .inr (.inr ⟨by decide, rfl, 2, 3, 4, rfl, rfl, by decide, by decide, by decide⟩)
  · exact .inr (.inl rfl)
  · exact .inr (.inr ⟨by decide, rfl, 0, 1, 4, rfl, rfl, by decide, by decide, by decide⟩)
  · exact .inr (.inr ⟨by decide, rfl, 0, 15, 16, rfl, rfl, by decide, by decide, by decide⟩)
  · exact .inl ⟨by unfold ftKnown; rw [ftSpan_out h1 h6 h8, decide_eq_false h3]; rfl, h3, ftSpan_out h1 h6 h8⟩
set_option maxHeartbeats 4000000 in
set_option maxRecDepth 100000 in
theorem rfMay_any (f : Int) (l : List UInt8) (hl : l.length ≤ 9223372036854775807) (w : World) :
    Calls Tryz.prog 69 #[.int .i64 f, .string (str l)] w fun e w' => e = .returned (.bool (ftMay f l)) ∧ ∃ n, w' = w.drewN n := by
  have HK := Lib.hid (fun W => rfKnown_any f W)
  have hss : (str l).size = l.length := rfl
  rcases ft_lists f with ⟨hk, h3, hs⟩ | rfl | ⟨h3, hk, lo, hi, most, hs, hb, hlt, hm16, hlo⟩
  · have hr : ftMay f l = false := by unfold ftMay; rw [if_neg h3, hs]
    rw [hk] at HK
    rw [hr]
    clear hr hk hs h3 hss hl
    go_enter Tryz.func69, Tryz.ntmps69
    go_wp2_with (go_at_call 68; (with_reducible refine (HK.out _).mono ?_); rintro e w1 ⟨rfl, rfl⟩)
    go_ret
    exact ⟨rfl, 0, rfl⟩
  · have HK' : Hid (∀ W, Calls Tryz.prog 68 #[.int .i64 3] W fun e w' => e = .returned (.bool true) ∧ W = w') := Lib.hid HK.out
    unfold ftMay
    rw [if_pos rfl]
    by_cases h6 : l.length = 6
    · have HN := Lib.hid (fun W => refNumber_any l (by omega) W)
      have b6 : (((str l).size : Int) == 6) = true := by rw [beq_iff_eq]; omega
      rw [decide_eq_true h6, Bool.true_and]
      generalize beNum l = n at *
      generalize str l = s at *
      by_cases h32 : 32 ≤ n
      · have d1 : decide ((32 : Int) ≤ (n : Int)) = true := decide_eq_true (by omega)
        rw [decide_eq_true h32, Bool.true_and]
        by_cases h1000 : n ≤ 1000
        · have d2 : decide ((n : Int) ≤ 1000) = true := decide_eq_true (by omega)
          rw [decide_eq_true h1000]
          go_enter Tryz.func69, Tryz.ntmps69
          go_wp2_with (first
            | (go_at_call 68; (with_reducible refine (HK'.out _).mono ?_); rintro e w1 ⟨rfl, rfl⟩)
            | (go_at_call 107; (with_reducible refine (HN.out _).mono ?_); rintro e w2 ⟨rfl, rfl⟩))
          go_ret
          exact ⟨rfl, 0, rfl⟩
        · have d2 : decide ((n : Int) ≤ 1000) = false := decide_eq_false (by omega)
          rw [decide_eq_false h1000]
          go_enter Tryz.func69, Tryz.ntmps69
          go_wp2_with (first
            | (go_at_call 68; (with_reducible refine (HK'.out _).mono ?_); rintro e w1 ⟨rfl, rfl⟩)
            | (go_at_call 107; (with_reducible refine (HN.out _).mono ?_); rintro e w2 ⟨rfl, rfl⟩))
          go_ret
          exact ⟨rfl, 0, rfl⟩
      · have d1 : decide ((32 : Int) ≤ (n : Int)) = false := decide_eq_false (by omega)
        rw [decide_eq_false h32, Bool.false_and]
        go_enter Tryz.func69, Tryz.ntmps69
        go_wp2_with (first
          | (go_at_call 68; (with_reducible refine (HK'.out _).mono ?_); rintro e w1 ⟨rfl, rfl⟩)
          | (go_at_call 107; (with_reducible refine (HN.out _).mono ?_); rintro e w2 ⟨rfl, rfl⟩))
        go_ret
        exact ⟨rfl, 0, rfl⟩
    · have b6 : (((str l).size : Int) == 6) = false := by rw [beq_eq_false_iff_ne]; omega
      rw [decide_eq_false h6, Bool.false_and]
      generalize str l = s at *
      go_enter Tryz.func69, Tryz.ntmps69
      go_wp2_with (go_at_call 68; (with_reducible refine (HK'.out _).mono ?_); rintro e w1 ⟨rfl, rfl⟩)
      go_ret
      exact ⟨rfl, 0, rfl⟩
  · have b3 : ((f : Int) == 3) = false := by rw [beq_eq_false_iff_ne]; exact h3
    have hr : ftMay f l = ftList lo hi l := by unfold ftMay; rw [if_neg h3, hs]
    have HBD := Lib.hid (fun W => rfBounds_any f W)
    rw [hb] at HBD
    have HBD' : Hid (∀ W, Calls Tryz.prog 106 #[.int .i64 f] W fun e w' => e = .returned (.tuple #[.int .u8 lo, .int .u8 hi, .int .i64 most]) ∧ W = w') := Lib.hid HBD.out
    rw [hk] at HK
    rw [hr]
    have hbt : ∀ i (h : i < (str l).size), (l.take (i + 1)) = l.take i ++ [(str l)[i]] := fun i h => M.bytes_take (str l) i h
    generalize str l = s at *
    have HSS := Lib.hid hss; have HBT := Lib.hid hbt
    have hsl : s.size ≤ 9223372036854775807 := by omega
    have hshort : FtGood lo hi l → l.length ≤ most := fun h => Nat.le_trans (nodup_short (hi + 1) l h.1 (fun b hb => by have := (h.2 b hb).2; omega)) hlt
    have HSH := Lib.hid hshort
    clear hss hbt hr HBD hb hs hk hshort hl h3
    by_cases hlen : s.size < 1
    · have d1 : decide ((s.size : Int) < 1) = true := decide_eq_true (by omega)
      have HR : Hid (ftList lo hi l = false) := Lib.hid (by
        have h9 : l = [] := List.eq_nil_of_length_eq_zero (by have := HSS.out; omega)
        subst h9
        unfold ftList; simp)
      go_enter Tryz.func69, Tryz.ntmps69
      go_wp2_with (first
        | (go_at_call 68; (with_reducible refine (HK.out _).mono ?_); rintro e w1 ⟨rfl, rfl⟩)
        | (go_at_call 106; (with_reducible refine (HBD'.out _).mono ?_); rintro e w2 ⟨rfl, rfl⟩))
      go_ret
      exact ⟨by rw [HR.out]; rfl, 0, rfl⟩
    · have d1 : decide ((s.size : Int) < 1) = false := decide_eq_false (by omega)
      have hno : ¬ FtGood lo hi l → ftList lo hi l = false := fun h => by
        unfold ftList
        rw [decide_eq_false h, Bool.false_and]
      have HNO := Lib.hid hno
      clear hno
      by_cases hgt : most < s.size
      · have d2 : decide ((most : Int) < (s.size : Int)) = true := decide_eq_true (by omega)
        go_enter Tryz.func69, Tryz.ntmps69
        go_wp2_with (first
          | (go_at_call 68; (with_reducible refine (HK.out _).mono ?_); rintro e w1 ⟨rfl, rfl⟩)
          | (go_at_call 106; (with_reducible refine (HBD'.out _).mono ?_); rintro e w2 ⟨rfl, rfl⟩))
        go_ret
        exact ⟨by rw [HNO.out (fun h => by have := HSH.out h; have := HSS.out; omega)]; rfl, 0, rfl⟩
      · have d2 : decide ((most : Int) < (s.size : Int)) = false := decide_eq_false (by omega)
        go_enter Tryz.func69, Tryz.ntmps69
        go_wp2_with (first
          | (go_at_call 68; (with_reducible refine (HK.out _).mono ?_); rintro e w1 ⟨rfl, rfl⟩)
          | (go_at_call 106; (with_reducible refine (HBD'.out _).mono ?_); rintro e w2 ⟨rfl, rfl⟩))
        go_loopw [8] (fun iv wr => ∃ i : Nat, iv = .int .i64 (i : Int) ∧ i ≤ s.size ∧ Hid (FtGood lo hi (l.take i)) ∧ Hid (∃ q, wr = w.drewN q)) (fun iv _ => s.size - (intOf iv).toNat)
        case atStart => exact ⟨0, rfl, Nat.zero_le _, Lib.hid (FtGood.nil _ _), Lib.hid ⟨0, rfl⟩⟩
        case round =>
          obtain ⟨i, rfl, hi2, hg, hwr⟩ := hrel
          by_cases hia : i < s.size
          · have d9 : decide ((i : Int) < (s.size : Int)) = true := decide_eq_true (by omega)
            have HB := Lib.hid (HBT.out i hia)
            have hsn := FtGood.snoc lo hi (l.take i) s[i]
            rw [← HB.out] at hsn
            have HSN := Lib.hid hsn
            have HNT : Hid (¬ FtGood lo hi (l.take (i + 1)) → ftList lo hi l = false) := Lib.hid (fun h => HNO.out (fun h9 => h (h9.take _)))
            clear hsn
            by_cases c1 : (s[i]).toNat < lo
            · have d3 : decide (((s[i]).toNat : Int) < (lo : Int)) = true := decide_eq_true (by omega)
              go_wp2
              go_ret
              exact ⟨by rw [HNT.out (fun h => by have := HSN.out.1 h; omega)]; rfl, hwr.out⟩
            · have d3 : decide (((s[i]).toNat : Int) < (lo : Int)) = false := decide_eq_false (by omega)
              by_cases c2 : hi < (s[i]).toNat
              · have d4 : decide ((hi : Int) < ((s[i]).toNat : Int)) = true := decide_eq_true (by omega)
                go_wp2
                go_ret
                exact ⟨by rw [HNT.out (fun h => by have := HSN.out.1 h; omega)]; rfl, hwr.out⟩
              · have d4 : decide ((hi : Int) < ((s[i]).toNat : Int)) = false := decide_eq_false (by omega)
                go_wp2
                go_loopw [9] (fun kv wq => ∃ k : Nat, kv = .int .i64 (k : Int) ∧ k ≤ i ∧ Hid (s[i] ∉ l.take k) ∧ Hid (∃ q, wq = w.drewN q)) (fun kv _ => i - (intOf kv).toNat)
                case atStart => exact ⟨0, rfl, Nat.zero_le _, Lib.hid (by simp), hwr⟩
                case round =>
                  obtain ⟨k, rfl, hk2, hn, hwq⟩ := hrel
                  by_cases hki : k < i
                  · have d8 : decide ((k : Int) < (i : Int)) = true := decide_eq_true (by omega)
                    have hks : k < s.size := by omega
                    have HBk := Lib.hid (HBT.out k hks)
                    by_cases he : s[k] = s[i]
                    · have b8 : (((s[k]).toNat : Int) == ((s[i]).toNat : Int)) = true := by rw [he, beq_iff_eq]
                      have HIN : Hid (s[i] ∈ l.take i) := Lib.hid (by
                        have h9 : s[i] ∈ l.take (k + 1) := by rw [HBk.out, he]; simp
                        have h8 : l.take (k + 1) = (l.take i).take (k + 1) := by rw [List.take_take]; congr 1; omega
                        rw [h8] at h9
                        exact List.mem_of_mem_take h9)
                      clear he
                      go_wp2
                      go_quiet (fail)
                      go_wp2
                      go_ret
                      exact ⟨by rw [HNT.out (fun h => (HSN.out.1 h).2.2.2 HIN.out)]; rfl, by obtain ⟨q, hq⟩ := hwq.out; exact ⟨q + nq, by rw [hq]; first | rfl | exact World.drewN_drewN _ _ _ | exact (World.drewN_drewN _ _ _).symm⟩⟩
                    · have b8 : (((s[k]).toNat : Int) == ((s[i]).toNat : Int)) = false := by
                        rw [beq_eq_false_iff_ne]
                        intro h9
                        exact he (UInt8.toNat_inj.1 (by omega))
                      have HN2 : Hid (s[i] ∉ l.take (k + 1)) := Lib.hid (by
                        rw [HBk.out]
                        intro h9
                        rcases List.mem_append.1 h9 with h9 | h9
                        · exact hn.out h9
                        · exact he (List.mem_singleton.1 h9).symm)
                      clear he
                      go_wp2
                      go_quiet (fail)
                      go_wp2
                      refine ⟨⟨k + 1, by go_num, by omega, HN2, Lib.hid (by obtain ⟨q, hq⟩ := hwq.out; exact ⟨q + nq, by rw [hq]; first | rfl | exact World.drewN_drewN _ _ _ | exact (World.drewN_drewN _ _ _).symm⟩)⟩, ?_⟩
                      simp [intOf]; omega
                  · obtain rfl : k = i := by omega
                    have d8 : decide ((k : Int) < (k : Int)) = false := decide_eq_false (by omega)
                    have HG2 : Hid (FtGood lo hi (l.take (k + 1))) := Lib.hid (HSN.out.2 ⟨hg.out, by omega, by omega, hn.out⟩)
                    go_wp2
                    refine ⟨⟨k + 1, by go_num, by omega, HG2, hwq⟩, ?_⟩
                    simp [intOf]; omega
          · obtain rfl : i = s.size := by omega
            have d9 : decide ((s.size : Int) < (s.size : Int)) = false := decide_eq_false (by omega)
            have HR : Hid (ftList lo hi l = true) := Lib.hid (by
              have h9 := hg.out
              rw [HSS.out, List.take_length] at h9
              unfold ftList
              rw [decide_eq_true h9, Bool.true_and]
              have h8 := HSS.out
              cases l with
              | nil => exact absurd (show s.size = 0 from h8) (by omega)
              | cons b l => rfl)
            go_wp2
            go_ret
            exact ⟨by rw [HR.out]; rfl, hwr.out⟩
end Go.Proofs.YtnhlachoimlhhaaGreatDoor

namespace Go.Proofs.YtnhlachoimlhhaaGreatDoor
open Go.ChangeShapes Go.WideShapes Go.ChangeAt Go.RowKit
set_option linter.unusedVariables false
set_option linter.unusedSimpArgs false

set_option maxHeartbeats 4000000 in
set_option maxRecDepth 100000 in
theorem rfChoose_any (f : Int) (l c : List UInt8) (hl : l.length ≤ 9223372036854775807) (hc : c.length ≤ 9223372036854775807) (w : World) :
    Calls Tryz.prog 109 #[.int .i64 f, .string (str l), .string (str c)] w fun e w' => e = .returned (ftRet (ftChoose f l c)) ∧ ∃ n, w' = w.drewN n := by
  have HM1 := Lib.hid (fun W => rfMay_any f c hc W)
  have HM2 := Lib.hid (fun W => rfMay_any f l hl W)
  have HIX := Lib.hid (fun b W => rfHas_any c hc b W)
  obtain ⟨r, hr⟩ : ∃ r, ftChoose f l c = r := ⟨_, rfl⟩
  unfold ftChoose at hr
  rw [show ftChoose f l c = r by unfold ftChoose; exact hr]
  obtain ⟨m1, hm1⟩ : ∃ m1, ftMay f c = m1 := ⟨_, rfl⟩
  obtain ⟨m2, hm2⟩ : ∃ m2, ftMay f l = m2 := ⟨_, rfl⟩
  rw [hm1] at HM1
  rw [hm2] at HM2
  rw [hm1, hm2] at hr
  clear hm1 hm2
  by_cases h3 : f = 3
  · subst h3
    cases m1 with
    | false =>
      rw [if_neg (by decide)] at hr
      subst hr
      clear HM2 HIX
      go_enter Tryz.func109, Tryz.ntmps109
      go_wp2_with (go_at_call 69; (with_reducible refine (HM1.out _).mono ?_); rintro e w1 ⟨rfl, n, rfl⟩)
      go_ret2
      exact ⟨rfl, n, rfl⟩
    | true =>
      rw [if_pos rfl, if_pos rfl] at hr
      subst hr
      clear HM2 HIX
      go_enter Tryz.func109, Tryz.ntmps109
      go_wp2_with (go_at_call 69; (with_reducible refine (HM1.out _).mono ?_); rintro e w1 ⟨rfl, n, rfl⟩)
      go_ret2
      exact ⟨rfl, n, rfl⟩
  · have b3 : ((f : Int) == 3) = false := by rw [beq_eq_false_iff_ne]; exact h3
    rw [if_neg h3] at hr
    cases m2 with
    | false =>
      rw [if_neg (by decide : ¬ false = true), ite_self] at hr
      subst hr
      clear HM1 HIX
      go_enter Tryz.func109, Tryz.ntmps109
      go_wp2_with (go_at_call 69; (with_reducible refine (HM2.out _).mono ?_); rintro e w1 ⟨rfl, n, rfl⟩)
      go_ret2
      exact ⟨rfl, n, rfl⟩
    | true =>
      cases m1 with
      | false =>
        rw [if_neg (by decide : ¬ false = true)] at hr
        subst hr
        clear HIX
        go_enter Tryz.func109, Tryz.ntmps109
        go_wp2_with (go_at_call 69; (first
          | ((with_reducible refine (HM2.out _).mono ?_); rintro e w1 ⟨rfl, n, rfl⟩)
          | ((with_reducible refine (HM1.out _).mono ?_); rintro e w2 ⟨rfl, n2, rfl⟩)))
        go_ret2
        exact ⟨rfl, n + n2, by first | rfl | exact World.drewN_drewN _ _ _ | exact (World.drewN_drewN _ _ _).symm⟩
      | true =>
        rw [if_pos rfl, if_pos rfl] at hr
        have HR := Lib.hid hr
        have HSL := Lib.hid (fun j hj b hb W => str_one l j hj hl b hb W)
        have hss : (str l).size = l.length := rfl
        obtain ⟨s, hs⟩ : ∃ s, str l = s := ⟨_, rfl⟩
        have hbt : ∀ i (h : i < s.size), (l.take (i + 1)) = l.take i ++ [s[i]] := by
          subst hs
          intro i h
          exact M.bytes_take (str l) i h
        have HSL2 : Hid (∀ j (hj : j < s.size) W, (Instr.slice 9 (.string s) (some (.int .i64 (j : Int))) (some (.int .i64 ((j : Int) + 1))) none).run Tryz.prog W = .ok (.string (str [s[j]])) W) := Lib.hid (fun j hj W => by have h9 := HSL.out j (by have h8 : s.size = l.length := (congrArg ByteArray.size hs).symm; omega) s[j] (hbt j hj) W; rw [hs] at h9; exact h9)
        rw [hs] at hss HM2 ⊢
        have HSS := Lib.hid hss; have HBT := Lib.hid hbt
        have hsl : s.size ≤ 9223372036854775807 := by omega
        obtain ⟨cs, hcs⟩ : ∃ cs, str c = cs := ⟨_, rfl⟩
        rw [hcs] at HM1 HIX ⊢
        clear hs hss hbt hl hr HSL hcs
        go_enter Tryz.func109, Tryz.ntmps109
        go_wp2_with (go_at_call 69; (first
          | ((with_reducible refine (HM2.out _).mono ?_); rintro e w1 ⟨rfl, n, rfl⟩)
          | ((with_reducible refine (HM1.out _).mono ?_); rintro e w2 ⟨rfl, n2, rfl⟩)))
        have HV : Hid (∃ q, w.drewN (n + n2) = w.drewN q) := Lib.hid ⟨n + n2, rfl⟩
        generalize w.drewN (n + n2) = V at *
        clear HM1 HM2
        go_loopw [8] (fun iv wr => ∃ j : Nat, iv = .int .i64 (j : Int) ∧ j ≤ s.size ∧ Hid (∀ b ∈ l.take j, b ∉ c) ∧ Hid (∃ q, wr = w.drewN q)) (fun iv _ => s.size - (intOf iv).toNat)
        case atStart => exact ⟨0, rfl, Nat.zero_le _, Lib.hid (by intro b hb; simp at hb), HV⟩
        case round =>
          obtain ⟨j, rfl, hj, hg, hwr⟩ := hrel
          by_cases hjk : j < s.size
          · have d9 : decide ((j : Int) < (s.size : Int)) = true := decide_eq_true (by omega)
            have HIX1 := Lib.hid (HIX.out s[j])
            have hsl1 := HSL2.out j hjk
            have HB1 := Lib.hid (HBT.out j hjk)
            by_cases c3 : s[j] ∈ c
            · rw [decide_eq_true c3] at HIX1
              have HP := Lib.hid (ftPick_at l c j s[j] HB1.out hg.out c3)
              clear c3
              go_wp2_with (go_at_call 110; (with_reducible refine (HIX1.out _).mono ?_); rintro e w3 ⟨rfl, rfl⟩)
              go_ret2
              exact ⟨by rw [← HR.out, HP.out]; rfl, hwr.out⟩
            · rw [decide_eq_false c3] at HIX1
              have HG2 : Hid (∀ b ∈ l.take (j + 1), b ∉ c) := Lib.hid (fun b hb => by
                rw [HB1.out] at hb
                rcases List.mem_append.1 hb with hb | hb
                · exact hg.out b hb
                · rw [List.mem_singleton.1 hb]; exact c3)
              clear c3 hsl1
              go_wp2_with (go_at_call 110; (with_reducible refine (HIX1.out _).mono ?_); rintro e w3 ⟨rfl, rfl⟩)
              refine ⟨⟨j + 1, by go_num, by omega, HG2, hwr⟩, ?_⟩
              simp [intOf]; omega
          · obtain rfl : j = s.size := by omega
            have d9 : decide ((s.size : Int) < (s.size : Int)) = false := decide_eq_false (by omega)
            have HP : Hid (ftPick l c = none) := Lib.hid (ftPick_none l c (by
              have h9 := hg.out
              rw [HSS.out, List.take_length] at h9
              exact h9))
            go_wp2
            go_ret2
            exact ⟨by rw [← HR.out, HP.out]; rfl, hwr.out⟩
theorem rfDefault_any (f : Int) (w : World) : Calls Tryz.prog 64 #[.int .i64 f] w fun e w' => e = .returned (.string (str (ftDefault f))) ∧ Below w.heap.size w w' := by
  have HB : Hid (∀ W, Calls Tryz.prog 105 #[.int .u64 100, .int .i64 6] W fun e w' => e = .returned (.string (str (beBytes 6 100))) ∧ Below W.heap.size W w') := Lib.hid (fun W => refBytes_any 100 6 (by decide) (by decide) W)
  unfold ftDefault
  rcases ft_kinds f with rfl | rfl | rfl | rfl | ⟨h1, h3, h6, h8⟩
  · go_enter Tryz.func64, Tryz.ntmps64
    go_wp2
    go_ret
    exact ⟨rfl, Below.refl _ _⟩
  · rw [if_neg (by decide), if_neg (by decide), if_neg (by decide), if_pos rfl]
    generalize str (beBytes 6 100) = s at *
    go_enter Tryz.func64, Tryz.ntmps64
    go_wp2_with (go_at_call 105; (with_reducible refine (HB.out _).mono ?_); rintro e w1 ⟨rfl, h9⟩)
    go_ret
    exact ⟨rfl, h9⟩
  · go_enter Tryz.func64, Tryz.ntmps64
    go_wp2
    go_ret
    exact ⟨rfl, Below.refl _ _⟩
  · go_enter Tryz.func64, Tryz.ntmps64
    go_wp2
    go_ret
    exact ⟨rfl, Below.refl _ _⟩
  · rw [if_neg h1, if_neg h6, if_neg h8, if_neg h3]
    have b1 : ((f : Int) == 1) = false := by rw [beq_eq_false_iff_ne]; exact h1
    have b6 : ((f : Int) == 6) = false := by rw [beq_eq_false_iff_ne]; exact h6
    have b8 : ((f : Int) == 8) = false := by rw [beq_eq_false_iff_ne]; exact h8
    have b3 : ((f : Int) == 3) = false := by rw [beq_eq_false_iff_ne]; exact h3
    go_enter Tryz.func64, Tryz.ntmps64
    go_wp2
    go_ret
    exact ⟨rfl, Below.refl _ _⟩
end Go.Proofs.YtnhlachoimlhhaaGreatDoor

namespace Go.Proofs.YtnhlachoimlhhaaGreatDoor
open Go.ChangeShapes Go.WideShapes Go.ChangeAt Go.RowKit
set_option linter.unusedVariables false
set_option linter.unusedSimpArgs false

def ftAllTo (f : Int) (j : Nat) : List UInt8 := ((List.range j).map UInt8.ofNat).filter fun b => ftMay f [b]
def ftAll (f : Int) : List UInt8 := ftAllTo f 256
theorem ftAllTo_succ (f : Int) (j : Nat) : ftAllTo f (j + 1) = ftAllTo f j ++ if ftMay f [UInt8.ofNat j] = true then [UInt8.ofNat j] else [] := by
  unfold ftAllTo
  rw [List.range_succ, List.map_append, List.filter_append]
  congr 1
  rw [List.map_singleton, List.filter_cons]
  rfl
theorem ftAllTo_len (f : Int) (j : Nat) : (ftAllTo f j).length ≤ j := by
  unfold ftAllTo
  exact Nat.le_trans (List.length_filter_le _ _) (by simp)
theorem conv_one (j : Nat) (hj : j < 256) (w : World) : (convert 90 9 (.slice (some ⟨w.heap.size, 0, none⟩) 1 1)).run Tryz.prog (w.alloc (.cells #[.int .u8 (j : Int)] 5)) = .ok (.string (str [UInt8.ofNat j])) (w.alloc (.cells #[.int .u8 (j : Int)] 5)) := by
  refine run_convert_bytes_back _ 90 9 5 ⟨w.heap.size, 0, none⟩ 1 [UInt8.ofNat j] Tryz.underlying90 Tryz.underlying5 Tryz.underlying9 (fun i hi => ?_)
  obtain rfl : i = 0 := by simpa using hi
  refine (World.cell?_alloc_mark w _ _ (0, 0) 0).trans ?_
  simp
  omega
set_option maxHeartbeats 4000000 in
set_option maxRecDepth 100000 in
theorem negoAll_any (f : Int) (w : World) : Calls Tryz.prog 62 #[.int .i64 f] w fun e w' => e = .returned (.string (str (ftAll f))) ∧ Below w.heap.size w w' := by
  have HNIL := Lib.hid (BytesOwn.nil w)
  go_enter Tryz.func62, Tryz.ntmps62
  go_wp2
  go_loopw [3, 6] (fun v iv wr => ∃ j : Nat, iv = .int .i64 (j : Int) ∧ j ≤ 256 ∧ Hid (BytesOwn w.heap.size v (ftAllTo f j) w wr)) (fun _ iv _ => 256 - (intOf iv).toNat)
  case atStart => exact ⟨0, rfl, by decide, HNIL⟩
  case round =>
    clear HNIL
    obtain ⟨j, rfl, hj, hg⟩ := hrel
    by_cases hjk : j < 256
    · have d9 : decide ((j : Int) < 256) = true := decide_eq_true (by omega)
      have q1 : IntKind.u8.wrap (j : Int) = (j : Int) := by rw [IntKind.wrap_u8]; omega
      have hconv := conv_one j hjk wr
      have HM := Lib.hid (fun W => ftMay_any f [UInt8.ofNat j] (by simp) W)
      have HSU := Lib.hid (ftAllTo_succ f j)
      have HLE := Lib.hid (ftAllTo_len f j)
      have HCB : Hid ((j : Int) = ((UInt8.ofNat j).toNat : Int)) := Lib.hid (by simp; omega)
      obtain ⟨m, hm⟩ : ∃ m, ftMay f [UInt8.ofNat j] = m := ⟨_, rfl⟩
      rw [hm] at HM HSU
      clear hm
      cases m with
      | true =>
        have HSU2 : Hid (ftAllTo f (j + 1) = ftAllTo f j ++ [UInt8.ofNat j]) := Lib.hid HSU.out
        go_upto_region 7 with (go_at_call 102; (with_reducible refine (HM.out _).mono ?_); rintro e w1 ⟨rfl, n, rfl⟩)
        rw [show (wr.alloc (.cells #[.int .u8 (j : Int)] 5)).drewN n = (wr.drewN n).alloc (.cells #[.int .u8 (j : Int)] 5) from rfl]
        clear hconv
        go_wp2_with (at_builtin; refine wp_byte rfl _ _ rfl w.heap.size u3 (ftAllTo f j) rfl w (wr.drewN n) (j : Int) (UInt8.ofNat j) HCB.out (hg.out.kept (bel_drewN _ _)) wr.heap.size rfl rfl (by have := HLE.out; omega) ?_; intro v2 w9 ho9 hoth)
        refine ⟨⟨j + 1, by go_num, by omega, Lib.hid (by rw [HSU2.out]; exact ho9)⟩, ?_⟩
        simp [intOf]; omega
      | false =>
        have HSU2 : Hid (ftAllTo f (j + 1) = ftAllTo f j) := Lib.hid (HSU.out.trans (List.append_nil _))
        go_wp2_with (go_at_call 102; (with_reducible refine (HM.out _).mono ?_); rintro e w1 ⟨rfl, n, rfl⟩)
        refine ⟨⟨j + 1, by go_num, by omega, Lib.hid (by rw [HSU2.out]; exact (hg.out.alloc _).kept (bel_drewN _ _))⟩, ?_⟩
        simp [intOf]; omega
    · obtain rfl : j = 256 := by omega
      have hcv := hg.out.conv
      have HBL := Lib.hid hg.out.bel
      have hall : ftAllTo f 256 = ftAll f := rfl
      rw [hall] at hcv
      obtain ⟨r, hr⟩ : ∃ r, str (ftAll f) = r := ⟨_, rfl⟩
      rw [hr] at hcv
      have HR := Lib.hid hr
      clear hall hg hr
      go_wp2
      go_ret
      exact ⟨by rw [HR.out]; rfl, HBL.out⟩
end Go.Proofs.YtnhlachoimlhhaaGreatDoor

namespace Go.Proofs.YtnhlachoimlhhaaGreatDoor
open Go.ChangeShapes Go.WideShapes Go.ChangeAt Go.RowKit
set_option linter.unusedVariables false
set_option linter.unusedSimpArgs false

def rfRun (lo n : Nat) : List UInt8 := (List.range' lo n).map UInt8.ofNat
theorem rfRun_succ (lo x : Nat) (h : lo ≤ x) : rfRun lo (x + 1 - lo) = rfRun lo (x - lo) ++ [UInt8.ofNat x] := by
  unfold rfRun
  rw [show x + 1 - lo = (x - lo) + 1 by omega, List.range'_concat, List.map_append, List.map_singleton, show lo + 1 * (x - lo) = x by omega]
set_option maxHeartbeats 4000000 in
set_option maxRecDepth 100000 in
theorem rfAll_run (f : Int) (lo hi most : Nat) (hb : rfBounds f = (lo, hi, most)) (hlo : lo ≤ hi) (hhi : hi < 255) (w : World) :
    Calls Tryz.prog 66 #[.int .i64 f] w fun e w' => e = .returned (.string (str (rfRun lo (hi + 1 - lo)))) ∧ Below w.heap.size w w' := by
  have HBD := Lib.hid (fun W => rfBounds_any f W)
  rw [hb] at HBD
  have HBD' : Hid (∀ W, Calls Tryz.prog 106 #[.int .i64 f] W fun e w' => e = .returned (.tuple #[.int .u8 lo, .int .u8 hi, .int .i64 most]) ∧ W = w') := Lib.hid HBD.out
  have w1 : IntKind.i64.wrap (lo : Int) = (lo : Int) := IntWalk.i64_in _ (by omega)
  have w2 : IntKind.i64.wrap (hi : Int) = (hi : Int) := IntWalk.i64_in _ (by omega)
  clear HBD hb
  go_enter Tryz.func66, Tryz.ntmps66
  go_wp2_with (go_at_call 106; (with_reducible refine (HBD'.out _).mono ?_); rintro e w1 ⟨rfl, rfl⟩)
  go_loopw [6, 7] (fun sv iv wr => ∃ (x : Nat) (s : ByteArray), iv = .int .i64 (x : Int) ∧ sv = .string s ∧ lo ≤ x ∧ x ≤ hi + 1 ∧ Hid (s = str (rfRun lo (x - lo))) ∧ Hid (Below w.heap.size w wr)) (fun _ iv _ => hi + 1 - (intOf iv).toNat)
  case atStart => exact ⟨lo, _, rfl, rfl, Nat.le_refl _, by omega, Lib.hid (by rw [Nat.sub_self]; rfl), Lib.hid (Below.refl _ _)⟩
  case round =>
    obtain ⟨x, s, rfl, rfl, hx1, hx2, hs, hbl⟩ := hrel
    by_cases hx : x ≤ hi
    · have d9 : decide ((x : Int) ≤ (hi : Int)) = true := decide_eq_true (by omega)
      have q1 : IntKind.u8.wrap (x : Int) = (x : Int) := by rw [IntKind.wrap_u8]; omega
      have hconv := conv_one x (by omega) wr
      have hlen : s.size = x - lo := by rw [hs.out, str_size]; unfold rfRun; simp
      have hsa : s ++ str [UInt8.ofNat x] = str (rfRun lo (x + 1 - lo)) := by rw [hs.out, str_append, ← rfRun_succ lo x hx1]
      have hcat : ¬ 9223372036854775807 < s.size + (str [UInt8.ofNat x]).size := by rw [hlen, str_size]; simp; omega
      obtain ⟨s2, hs2⟩ : ∃ s2, str (rfRun lo (x + 1 - lo)) = s2 := ⟨_, rfl⟩
      rw [hs2] at hsa
      have HS2 := Lib.hid hs2
      have HBL2 : Hid (Below w.heap.size w (wr.alloc (.cells #[.int .u8 (x : Int)] 5))) := Lib.hid (bel_trans hbl.out (bel_alloc _ _))
      clear hs2 hlen hs
      generalize str [UInt8.ofNat x] = s1 at *
      go_wp2
      refine ⟨⟨x + 1, s2, by go_num, by first | rfl | rw [hsa], by omega, by omega, Lib.hid HS2.out.symm, HBL2⟩, ?_⟩
      simp [intOf]; omega
    · obtain rfl : x = hi + 1 := by omega
      have d9 : decide (((hi + 1 : Nat) : Int) ≤ (hi : Int)) = false := decide_eq_false (by omega)
      have d8 : decide ((hi : Int) + 1 ≤ (hi : Int)) = false := decide_eq_false (by omega)
      go_wp2
      go_ret
      exact ⟨by rw [← hs.out]; rfl, hbl.out⟩
theorem ftAll_1 : ftAll 1 = rfRun 2 2 := by decide +kernel
theorem ftAll_6 : ftAll 6 = rfRun 0 2 := by decide +kernel
theorem ftAll_8 : ftAll 8 = rfRun 0 16 := by decide +kernel
theorem ftAll_none (f : Int) (h1 : f ≠ 1) (h6 : f ≠ 6) (h8 : f ≠ 8) : ftAll f = [] := by
  unfold ftAll ftAllTo
  refine List.filter_eq_nil_iff.2 (fun b hb => ?_)
  unfold ftMay
  by_cases h3 : f = 3
  · rw [if_pos h3]; simp
  · rw [if_neg h3, ftSpan_out h1 h6 h8]; simp
theorem rfAll_any (f : Int) (h : (ftSpan f).isSome = true) (w : World) :
    Calls Tryz.prog 66 #[.int .i64 f] w fun e w' => e = .returned (.string (str (ftAll f))) ∧ Below w.heap.size w w' := by
  rcases ft_kinds f with rfl | rfl | rfl | rfl | ⟨h1, h3, h6, h8⟩
  · rw [ftAll_1]; exact rfAll_run 1 2 3 4 rfl (by decide) (by decide) w
  · exact absurd h (by decide)
  · rw [ftAll_6]; exact rfAll_run 6 0 1 4 rfl (by decide) (by decide) w
  · rw [ftAll_8]; exact rfAll_run 8 0 15 16 rfl (by decide) (by decide) w
  · rw [ftSpan_out h1 h6 h8] at h; exact absurd h (by decide)
end Go.Proofs.YtnhlachoimlhhaaGreatDoor
