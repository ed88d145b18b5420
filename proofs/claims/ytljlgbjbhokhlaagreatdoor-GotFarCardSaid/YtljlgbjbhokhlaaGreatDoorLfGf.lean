/-
  What the laid table of the weights says.
  The law GotFar, walked.
-/
import Derived.Test.YtljlgbjbhokhlaaGreatDoorIvalA
import Derived.Test.YtljlgbjbhokhlaaGreatDoorRows
import Derived.Lib.LaidU8
import Derived.Lib.LaidTab
import Derived.MakeChecks
import Derived.OpenShut
import Derived.Test.YtljlgbjbhokhlaaGreatDoorLfGt
import Derived.Test.YtljlgbjbhokhlaaGreatDoorVecG
import Derived.Test.YtljlgbjbhokhlaaGreatDoorBegun8
namespace Go.Proofs.YtljlgbjbhokhlaaGreatDoor
open Go.ChangeShapes Go.WideShapes Go.ChangeAt Go.RowKit
set_option linter.unusedVariables false
set_option linter.unusedSimpArgs false

theorem tabW_laid {W : World} {l : List (String × DataW Unit)} (h : laidMet Tryz.prog l W) (hm : ("muleteer/ival.weights", (Rows.laid_muleteer_ival_weights : DataW Unit)) ∈ l) : TabW W := by
  obtain ⟨ps, h, _⟩ := h
  obtain ⟨g, t, cs, fuel, p, hg, ht, hvar, hd⟩ := Lib.LaidVars_reads h _ _ hm
  rw [show (Rows.laid_muleteer_ival_weights : DataW Unit) = Lib.tabData .u64 [5, 5, 5, 5, 4, 3, 2, 1] by kernel_rfl] at hd
  have e : Tryz.prog.globalNamed "muleteer/ival.weights" = some 2 := by kernel_rfl
  obtain rfl := Option.some.inj (e.symm.trans hg)
  obtain rfl : t = 227 := (Option.some.inj ((show (Tryz.prog.globals[2]?).map (·.type) = some 227 by kernel_rfl).symm.trans ht)).symm
  have hc := Lib.cells_of_tab Tryz.underlying227 Tryz.underlying22 (by kernel_rfl) (by kernel_rfl) hd
  obtain ⟨cl⟩ := cs
  simp only at hc
  subst hc
  intro i hi
  have h1 := World.var?_cell e hvar i
  rw [h1]
  obtain rfl | rfl | rfl | rfl | rfl | rfl | rfl | rfl : i = 0 ∨ i = 1 ∨ i = 2 ∨ i = 3 ∨ i = 4 ∨ i = 5 ∨ i = 6 ∨ i = 7 := by omega
  all_goals rfl
end Go.Proofs.YtljlgbjbhokhlaaGreatDoor

namespace Go.Proofs.YtljlgbjbhokhlaaGreatDoor
open Go.ChangeShapes Go.WideShapes Go.ChangeAt Go.RowKit
set_option linter.unusedVariables false
set_option linter.unusedSimpArgs false

theorem farL_get (k j : Nat) (hk : 1 ≤ k) : (leadL [0] k 0)[j]? = if j < min (k + 1) 250 then some (if j = 0 then 0 else if j < k then 3 else 0) else none := by
  unfold leadL
  rw [List.getElem?_set]
  by_cases h0 : 0 = j
  · subst h0
    rw [if_pos rfl, if_pos (by simp; omega), if_pos (by omega), if_pos rfl]
  · rw [if_neg h0, List.getElem?_take]
    by_cases h1 : j < 250
    · rw [if_pos h1]
      by_cases h2 : j < k
      · rw [List.getElem?_append_left (by simpa using h2), List.getElem?_replicate, if_pos h2, if_pos (by omega), if_neg (by omega), if_pos h2]
      · rw [List.getElem?_append_right (by simpa using h2), List.length_replicate]
        by_cases h3 : j = k
        · rw [if_pos (by omega), if_neg (by omega), if_neg h2, h3, Nat.sub_self]; rfl
        · rw [if_neg (by omega), List.getElem?_eq_none (by simp; omega)]
    · rw [if_neg h1, if_neg (by omega)]
theorem farL_len (k : Nat) (hk : 1 ≤ k) : (leadL [0] k 0).length = min (k + 1) 250 := by
  unfold leadL
  rw [List.length_set, List.length_take, List.length_append, List.length_replicate]
  simp
  omega
theorem farL_mem (k : Nat) (hk : 1 ≤ k) (v : Int) (hv : v ∈ leadL [0] k 0) : v = 0 ∨ v = 3 := by
  obtain ⟨j, hj⟩ := List.getElem?_of_mem hv
  rw [farL_get k j hk] at hj
  split at hj
  · cases hj
    split
    · exact .inl rfl
    · split
      · exact .inr rfl
      · exact .inl rfl
  · cases hj
/-- What stands behind the second one: R. -/
structure FarR (F : Nat) (R : List Int) : Prop where
  len : R.length = if F < 250 then F + 1 else 1
  last : F < 250 → R[F]? = some 0
  mem : ∀ v ∈ R, v = 0 ∨ v = 3
theorem farR_of (F k m : Nat) (hF : 240 ≤ F) (hF2 : F < 260) (hk : min F 250 = k) (ht : Trim (leadL [0] k 0) m) (hm : 0 < m → ∃ v, (leadL [0] k 0)[m - 1]? = some v ∧ v ≠ 3) : FarR F ((leadL [0] k 0).take m) := by
  have HMM := Lib.hid hm
  clear hm
  have hle := ht.le
  rw [farL_len k (by omega)] at hle
  have hmem : ∀ v ∈ (leadL [0] k 0).take m, v = 0 ∨ v = 3 := fun v hv => farL_mem k (by omega) v (List.mem_of_mem_take hv)
  by_cases h : F < 250
  · have hmF : m = F + 1 := by
      by_cases h1 : m ≤ F
      · have h2 := ht.lost F h1 (by rw [farL_len k (by omega)]; omega)
        rw [farL_get k F (by omega), if_pos (by omega), if_neg (by omega), if_neg (by omega)] at h2
        cases h2
      · omega
    refine ⟨by rw [if_pos h, List.length_take, farL_len k (by omega)]; omega, fun _ => ?_, hmem⟩
    rw [List.getElem?_take, if_pos (by omega), farL_get k F (by omega), if_pos (by omega), if_neg (by omega), if_neg (by omega)]
  · have hm1 : m = 1 := by
      by_cases h0 : m = 0
      · have h2 := ht.lost 0 (by omega) (by rw [farL_len k (by omega)]; omega)
        rw [farL_get k 0 (by omega), if_pos (by omega), if_pos rfl] at h2
        cases h2
      · by_cases h1 : m = 1
        · exact h1
        · obtain ⟨v, hv, hv3⟩ := HMM.out (by omega)
          rw [farL_get k (m - 1) (by omega), if_pos (by omega), if_neg (by omega), if_pos (by omega)] at hv
          cases hv
          exact absurd rfl hv3
    exact ⟨by rw [if_neg h, List.length_take, farL_len k (by omega)]; omega, fun h1 => absurd h1 h, hmem⟩
theorem FarR.all {F : Nat} {R : List Int} (h : FarR F R) : R.all stB = true := by
  rw [List.all_eq_true]
  intro v hv
  unfold stB
  rcases h.mem v hv with rfl | rfl <;> decide
theorem FarR.sts {F : Nat} {R : List Int} (h : FarR F R) : stsOk R := fun v hv => by
  rcases h.mem v hv with rfl | rfl <;> decide
/-- What Spread makes of the Cells: as many states. -/
theorem gotSpread (F : Nat) (hF : F < 260) (n : Nat) (R : List Int) (hR : FarR F R) (C g cap : Nat) (w : World) (h : GotR n R 0 false C g cap w) (v : Value) (w1 : World) (h1 : CelOwn w.heap.size v (ofR R) w w1) :
    Calls Tryz.prog 22 #[v] w1 fun e w' => ∃ p c, e = .returned (.slice p (if F < 250 then F + 1 else 1) c) ∧ Below w1.heap.size w1 w' := by
  have hlen : R.length ≤ 250 := by rw [hR.len]; split <;> omega
  obtain ⟨f1, f2, f3, f4, f5⟩ := of_facts R hR.all (by omega)
  have hat : C2At w1 v (ofR R) := h1.at (by omega) (fun i => by
    rw [List.getD_eq_getElem?_getD]
    cases hi : (ofR R)[i]? with
    | none => exact (by decide : -9223372036854775808 ≤ (0 : Int) ∧ (0 : Int) ≤ 9223372036854775807)
    | some c =>
      have := f4 c (List.mem_of_getElem? hi)
      simp only [Option.getD_some]
      omega)
  refine (vecSpread_any v (ofR R) w1 hat).mono ?_
  rintro e w' ⟨v', rfl, hv'⟩
  rw [f2] at hv'
  obtain ⟨⟨hv1, hv2, hv3⟩, hv4, hv5⟩ : I64At w' v' R ∧ Below w1.heap.size w1 w' ∧ True := ⟨hv'.at (by omega) (fun i => by
    rw [List.getD_eq_getElem?_getD]
    cases hi : R[i]? with
    | none => exact (by decide : -9223372036854775808 ≤ (0 : Int) ∧ (0 : Int) ≤ 9223372036854775807)
    | some c =>
      have := hR.sts c (List.mem_of_getElem? hi)
      simp only [Option.getD_some]
      omega), hv'.2.1, trivial⟩
  obtain ⟨p, c, e1, _⟩ := hv1
  exact ⟨p, c, by rw [e1, hR.len], hv4⟩
theorem kbG {w W W' : World} {S : List Nat} (h : Below w.heap.size w W) (k : Kept S W W') (hS : ∀ x, x ∈ S → w.heap.size ≤ x) : Below w.heap.size w W' := h.trans (k.below h.size hS)
theorem far_first (first y0 y1 F : Nat) (h0 : first % 281474976710656 = y0) (h1 : stepI first F = (y1 : Int)) (hF : 240 ≤ F) (hF2 : F < 260) : y0 < 281474976710656 ∧ y1 < 281474976710656 ∧ diffI y0 y1 = -(F : Int) ∧ diffI y1 first = (F : Int) := by
  unfold stepI at h1
  unfold diffI
  omega
theorem far_last (y1 y2 : Nat) (h : y1 < 281474976710656) (h1 : stepI y1 (-249) = (y2 : Int)) : y2 < 281474976710656 ∧ diffI y1 y2 = ((249 : Nat) : Int) := by
  unfold stepI at h1
  unfold diffI
  omega
theorem farPut2 (first y0 y1 F : Nat) (h0 : first % 281474976710656 = y0) (h1 : stepI first F = (y1 : Int)) (hF : 240 ≤ F) (hF2 : F < 260) (C g : Nat) (w : World) (h : GotR y0 [0] 0 false C g 1 w) :
    Calls Tryz.prog 20 #[.pointer (some ⟨C, 0, none⟩), .int .u64 y1, .bool false] w fun e w' => e = .returned (.bool true) ∧ ∃ g2 cap2 R, FarR F R ∧ GotR y1 R 0 false C g2 cap2 w' ∧ (g2 = g ∨ w.heap.size ≤ g2) ∧ Kept [C, g] w w' := by
  obtain ⟨b0, b1, d1, d2⟩ := far_first first y0 y1 F h0 h1 hF hF2
  refine (gotPut_leadR y0 (by omega) [0] (Nat.le_refl _) (by decide) 0 (by decide) false y1 (by omega) rfl F d1 (by omega) (by omega) (min F 250) rfl false y1 (by omega) C g 1 w h).mono ?_
  rintro e w' ⟨rfl, g2, cap2, m, h2, h3, h4, h5, h6⟩
  exact ⟨rfl, g2, cap2, _, farR_of F (min F 250) m hF hF2 rfl h3 h4, h2, h5, h6⟩
theorem FarR.there {F : Nat} {R : List Int} (h : FarR F R) : 1 ≤ R.length ∧ R.length ≤ 250 := by rw [h.len]; split <;> omega
theorem farHas (first y1 F : Nat) (hfi : first < 18446744073709551616) (hF2 : F < 260) (hy : y1 < 281474976710656) (hd : diffI y1 first = (F : Int)) (R : List Int) (hR : FarR F R) (C g cap : Nat) (w : World) (h : GotR y1 R 0 false C g cap w) :
    Calls Tryz.prog 49 #[.pointer (some ⟨C, 0, none⟩), .int .u64 first] w fun e w' => e = .returned (.bool (decide (F < 250))) ∧ w = w' := by
  refine gotHas_any y1 (by omega) R 0 false first hfi _ C g cap w h ?_
  rw [hd]
  by_cases h1 : F < 250
  · rw [decide_eq_true h1]
    exact gotThere_in y1 R F 0 (hR.last h1) 0 false C g cap w h
  · rw [decide_eq_false h1]
    exact gotThere_out y1 R F (by omega) (by omega) (.inr (by rw [hR.len, if_neg h1]; omega)) 0 false C g cap w h
theorem farOld (first y1 F : Nat) (hfi : first < 18446744073709551616) (hF : 240 ≤ F) (hF2 : F < 260) (hy : y1 < 281474976710656) (hd : diffI y1 first = (F : Int)) (R : List Int) (hR : FarR F R) (C g cap : Nat) (w : World) (h : GotR y1 R 0 false C g cap w) :
    Calls Tryz.prog 20 #[.pointer (some ⟨C, 0, none⟩), .int .u64 first, .bool true] w fun e w' => e = .returned (.bool false) ∧ w = w' := by
  refine gotPut_noR y1 (by omega) R hR.there.1 0 (by decide) false first hfi rfl F hd ?_ (by omega) true C g cap w h
  by_cases h1 : F < 250
  · exact .inr ⟨h1, 0, hR.last h1, by decide⟩
  · exact .inl (by omega)
theorem farEnd (y1 y2 F : Nat) (hF : 240 ≤ F) (hF2 : F < 260) (hy : y1 < 281474976710656) (h1 : stepI y1 (-249) = (y2 : Int)) (R : List Int) (hR : FarR F R) (C g cap : Nat) (w : World) (h : GotR y1 R 0 false C g cap w) :
    Calls Tryz.prog 20 #[.pointer (some ⟨C, 0, none⟩), .int .u64 y2, .bool false] w fun e w' => e = .returned (.bool (!decide (F = 249))) ∧ Kept [C, g] w w' := by
  obtain ⟨b2, d3⟩ := far_last y1 y2 hy h1
  by_cases h9 : F = 249
  · rw [decide_eq_true h9]
    refine (gotPut_noR y1 (by omega) R hR.there.1 0 (by decide) false y2 (by omega) rfl 249 d3 (.inr ⟨by decide, 0, by have := hR.last (by omega); rw [h9] at this; exact this, by decide⟩) (by decide) false C g cap w h).mono ?_
    rintro e w' ⟨rfl, rfl⟩
    exact ⟨rfl, Kept.refl _ _⟩
  · rw [decide_eq_false h9]
    refine (gotPut_fillR y1 (by omega) R hR.there.1 hR.there.2 0 (by decide) false y2 (by omega) rfl 249 d3 (by decide) (.inl (by rw [hR.len]; split <;> omega)) false C g cap w h).mono ?_
    rintro e w' ⟨rfl, g2, cap2, _, _, hk⟩
    exact ⟨rfl, hk⟩
set_option maxHeartbeats 4000000 in
set_option maxRecDepth 100000 in
theorem gotFar_walk (first : Nat) (hfi : first < 18446744073709551616) (far : Int) (n1 : -9223372036854775808 ≤ far) (n2 : far ≤ 9223372036854775807) (w : World) (hT : TabW w) :
    Calls Tryz.prog 12 #[.int .u64 first, .int .i64 far] w fun e w' => e = .returned (.bool true) ∧ Below w.heap.size w w' := by
  have HBG : Hid (Calls Tryz.prog 18 #[] w fun e w' => e = .returned (.bool true) ∧ Below w.heap.size w w') := Lib.hid (begun8_any w hT)
  clear hT
  obtain ⟨a, ha, a1, a2, J, hJ, hJ3⟩ := mod_at far 20 (by decide)
  obtain ⟨F, hF⟩ : ∃ F : Nat, 240 + (J : Int) = (F : Int) := ⟨240 + J, by omega⟩
  have hF1 : 240 ≤ F := by omega
  have hF2 : F < 260 := by omega
  obtain ⟨y0, h0⟩ : ∃ y0, first % 281474976710656 = y0 := ⟨_, rfl⟩
  obtain ⟨y1, h1⟩ : ∃ y1 : Nat, stepI first F = (y1 : Int) := ⟨(stepI first F).toNat, by unfold stepI; omega⟩
  obtain ⟨y2, h2⟩ : ∃ y2 : Nat, stepI y1 (-249) = (y2 : Int) := ⟨(stepI y1 (-249)).toNat, by unfold stepI; omega⟩
  obtain ⟨b0, b1, d1, d2⟩ := far_first first y0 y1 F h0 h1 hF1 hF2
  have HS1 : Hid (∀ W, Calls Tryz.prog 21 #[.int .u64 first, .int .i64 F] W fun e w' => e = .returned (.int .u64 (y1 : Int)) ∧ W = w') := Lib.hid (fun W => by rw [← h1]; exact refStep_any first F hfi (by omega) (by omega) W)
  have HS2 : Hid (∀ W, Calls Tryz.prog 21 #[.int .u64 y1, .int .i64 (-249)] W fun e w' => e = .returned (.int .u64 (y2 : Int)) ∧ W = w') := Lib.hid (fun W => by rw [← h2]; exact refStep_any y1 (-249) (by omega) (by decide) (by decide) W)
  have HP1 := Lib.hid (fun C W (h : BlkIs (gotCells 0 (.slice none 0 0)) 102 C W) => gotPut_firstR first hfi false y0 h0 C W h)
  have HP2 := Lib.hid (fun C g W h => farPut2 first y0 y1 F h0 h1 hF1 hF2 C g W h)
  have HHA := Lib.hid (fun R hR C g cap W h => farHas first y1 F hfi hF2 b1 d2 R hR C g cap W h)
  have HPO := Lib.hid (fun R hR C g cap W h => farOld first y1 F hfi hF1 hF2 b1 d2 R hR C g cap W h)
  have HPE := Lib.hid (fun R hR C g cap W h => farEnd y1 y2 F hF1 hF2 b1 h2 R hR C g cap W h)
  have HSP := Lib.hid (fun R hR C g cap W h v w1 hv => gotSpread F hF2 y1 R hR C g cap W h v w1 hv)
  have HCE := Lib.hid (fun R (hR : FarR F R) C g cap W h => gotCells_any y1 R hR.there.2 hR.sts 0 false C g cap W h)
  clear h0 h1 h2 d1 d2 b0 b1 hfi
  have hw1 : IntKind.i64.wrap ((F : Int) + 1) = (F : Int) + 1 := by rw [IntKind.wrap_i64]; omega
  have hcs : (F < 250 ∧ F ≠ 249) ∨ F = 249 ∨ ¬ F < 250 := by omega
  go_enter Tryz.func12, Tryz.ntmps12
  go_upto_region 8 with (first
    | (go_at_call 18; (with_reducible refine HBG.out.mono ?_); rintro e w0 ⟨rfl, hb0⟩)
    | (go_at_call 19; (with_reducible refine (gotNew_any _).mono ?_); rintro e w1 ⟨C, rfl, hg1, hc1, hb1⟩)
    | (go_at_call 21; (with_reducible refine (HS1.out _).mono ?_); rintro e w2 ⟨rfl, rfl⟩)
    | (go_at_call 20; (first
        | ((with_reducible refine (HP1.out _ _ hg1).mono ?_); rintro e w3 ⟨g, rfl, hg3, hk3, hs3⟩; have hg3 : GotR y0 [0] 0 false C g 1 w3 := hg3)
        | ((with_reducible refine (HP2.out _ _ _ hg3).mono ?_); rintro e w4 ⟨rfl, g4, c4, R, hR, hg4, hs4, hk4⟩))))
  have hgC : w.heap.size ≤ C := Nat.le_trans hb0.size hc1
  have hB3 : Below w.heap.size w w3 := kbG (bel_trans hb0 hb1) hk3 (by simp; exact hgC)
  have hgg : w.heap.size ≤ g := Nat.le_trans (bel_trans hb0 hb1).size hs3
  have hB4 : Below w.heap.size w w4 := kbG hB3 hk4 (by simp; exact ⟨hgC, hgg⟩)
  have hg4' : w.heap.size ≤ g4 := by
    rcases hs4 with e | e
    · omega
    · exact Nat.le_trans hB3.size e
  have HB4 := Lib.hid hB4
  have HC4 := Lib.hid hgC
  have HG4 := Lib.hid hg4'
  have HR := Lib.hid hR
  have H4 := Lib.hid hg4
  clear hb0 hg1 hc1 hb1 hg3 hk3 hs3 hs4 hk4 hgC hB3 hgg hB4 hg4' hg4 hR HP1 HP2 HS1 HBG ha hJ
  rcases hcs with ⟨q1, q2⟩ | q1 | q1
  · have i1 : decide ((250 : Int) ≤ (F : Int)) = false := decide_eq_false (by omega)
    have i2 : ¬ 250 ≤ F := by omega
    have i3 : ((F : Int) == 249) = false := by rw [beq_eq_false_iff_ne]; omega
    have i4 : decide (F < 250) = true := decide_eq_true q1
    have i5 : decide (F = 249) = false := decide_eq_false q2
    rw [i4] at HHA
    rw [i5] at HPE
    rw [if_pos q1] at HSP
    go_wp2_with (first
      | (go_at_call 23; (with_reducible refine (HCE.out _ HR.out _ _ _ _ H4.out).mono ?_); rintro e w5 ⟨v, rfl, hv5⟩; have hbl5 := hv5.2.1; have H5 := Lib.hid (H4.out.below hbl5))
      | (go_at_call 22; (with_reducible refine (HSP.out _ HR.out _ _ _ _ H4.out _ _ hv5).mono ?_); rintro e w6 ⟨p, c, rfl, hb6⟩; have H6 := Lib.hid (H5.out.below hb6))
      | (go_at_call 49; (with_reducible refine (HHA.out _ HR.out _ _ _ _ H6.out).mono ?_); rintro e w7 ⟨rfl, rfl⟩)
      | (go_at_call 21; (with_reducible refine (HS2.out _).mono ?_); rintro e w7 ⟨rfl, rfl⟩)
      | (go_at_call 20; (first
          | ((with_reducible refine (HPO.out _ HR.out _ _ _ _ H6.out).mono ?_); rintro e w7 ⟨rfl, rfl⟩)
          | ((with_reducible refine (HPE.out _ HR.out _ _ _ _ H6.out).mono ?_); rintro e w8 ⟨rfl, hk8⟩))))
    go_ret
    refine ⟨?_, kbG (bel_trans (bel_trans HB4.out hbl5) hb6) hk8 (by simp; exact ⟨HC4.out, HG4.out⟩)⟩
    first
      | rfl
      | (simp; done)
      | (simp; omega)
  · have i1 : decide ((250 : Int) ≤ (F : Int)) = false := decide_eq_false (by omega)
    have i2 : ¬ 250 ≤ F := by omega
    have i3 : ((F : Int) == 249) = true := by rw [beq_iff_eq]; omega
    have i4 : decide (F < 250) = true := decide_eq_true (by omega)
    have i5 : decide (F = 249) = true := decide_eq_true q1
    rw [i4] at HHA
    rw [i5] at HPE
    rw [if_pos (by omega)] at HSP
    go_wp2_with (first
      | (go_at_call 23; (with_reducible refine (HCE.out _ HR.out _ _ _ _ H4.out).mono ?_); rintro e w5 ⟨v, rfl, hv5⟩; have hbl5 := hv5.2.1; have H5 := Lib.hid (H4.out.below hbl5))
      | (go_at_call 22; (with_reducible refine (HSP.out _ HR.out _ _ _ _ H4.out _ _ hv5).mono ?_); rintro e w6 ⟨p, c, rfl, hb6⟩; have H6 := Lib.hid (H5.out.below hb6))
      | (go_at_call 49; (with_reducible refine (HHA.out _ HR.out _ _ _ _ H6.out).mono ?_); rintro e w7 ⟨rfl, rfl⟩)
      | (go_at_call 21; (with_reducible refine (HS2.out _).mono ?_); rintro e w7 ⟨rfl, rfl⟩)
      | (go_at_call 20; (first
          | ((with_reducible refine (HPO.out _ HR.out _ _ _ _ H6.out).mono ?_); rintro e w7 ⟨rfl, rfl⟩)
          | ((with_reducible refine (HPE.out _ HR.out _ _ _ _ H6.out).mono ?_); rintro e w8 ⟨rfl, hk8⟩))))
    go_ret
    refine ⟨?_, kbG (bel_trans (bel_trans HB4.out hbl5) hb6) hk8 (by simp; exact ⟨HC4.out, HG4.out⟩)⟩
    first
      | rfl
      | (simp; done)
      | (simp; omega)
  · have i1 : decide ((250 : Int) ≤ (F : Int)) = true := decide_eq_true (by omega)
    have i2 : 250 ≤ F := by omega
    have i3 : ((F : Int) == 249) = false := by rw [beq_eq_false_iff_ne]; omega
    have i4 : decide (F < 250) = false := decide_eq_false (by omega)
    have i5 : decide (F = 249) = false := decide_eq_false (by omega)
    rw [i4] at HHA
    rw [i5] at HPE
    rw [if_neg q1] at HSP
    go_wp2_with (first
      | (go_at_call 23; (with_reducible refine (HCE.out _ HR.out _ _ _ _ H4.out).mono ?_); rintro e w5 ⟨v, rfl, hv5⟩; have hbl5 := hv5.2.1; have H5 := Lib.hid (H4.out.below hbl5))
      | (go_at_call 22; (with_reducible refine (HSP.out _ HR.out _ _ _ _ H4.out _ _ hv5).mono ?_); rintro e w6 ⟨p, c, rfl, hb6⟩; have H6 := Lib.hid (H5.out.below hb6))
      | (go_at_call 49; (with_reducible refine (HHA.out _ HR.out _ _ _ _ H6.out).mono ?_); rintro e w7 ⟨rfl, rfl⟩)
      | (go_at_call 21; (with_reducible refine (HS2.out _).mono ?_); rintro e w7 ⟨rfl, rfl⟩)
      | (go_at_call 20; (first
          | ((with_reducible refine (HPO.out _ HR.out _ _ _ _ H6.out).mono ?_); rintro e w7 ⟨rfl, rfl⟩)
          | ((with_reducible refine (HPE.out _ HR.out _ _ _ _ H6.out).mono ?_); rintro e w8 ⟨rfl, hk8⟩))))
    go_ret
    refine ⟨?_, kbG (bel_trans (bel_trans HB4.out hbl5) hb6) hk8 (by simp; exact ⟨HC4.out, HG4.out⟩)⟩
    first
      | rfl
      | (simp; done)
      | (simp; omega)
end Go.Proofs.YtljlgbjbhokhlaaGreatDoor
