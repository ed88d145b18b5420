/-
  What the laid table of the weights says.
  The law GotForget: what its numbers and states come to.
-/
import Derived.Test.YtkpginmdnlhfbaaGreatDoorIvalA
import Derived.Test.YtkpginmdnlhfbaaGreatDoorRows
import Derived.Lib.LaidU8
import Derived.Lib.LaidTab
import Derived.MakeChecks
import Derived.OpenShut
import Derived.Test.YtkpginmdnlhfbaaGreatDoorLfGu
import Derived.Test.YtkpginmdnlhfbaaGreatDoorVecG
import Derived.Test.YtkpginmdnlhfbaaGreatDoorBegun8
namespace Go.Proofs.YtkpginmdnlhfbaaGreatDoor
open Go.ChangeShapes Go.WideShapes Go.ChangeAt Go.RowKit
set_option linter.unusedVariables false
set_option linter.unusedSimpArgs false

theorem tabW_laid {W : World} {l : List (String × DataW Unit)} (h : laidMet Tryz.prog l W) (hm : ("muleteer/ival.weights", (Rows.laid_muleteer_ival_weights : DataW Unit)) ∈ l) : TabW W := by
  obtain ⟨ps, h, _⟩ := h
  obtain ⟨g, t, cs, fuel, p, hg, ht, hvar, hd⟩ := Lib.LaidVars_reads h _ _ hm
  rw [show (Rows.laid_muleteer_ival_weights : DataW Unit) = Lib.tabData .u64 [5, 5, 5, 5, 4, 3, 2, 1] by kernel_rfl] at hd
  have e : Tryz.prog.globalNamed "muleteer/ival.weights" = some 2 := by kernel_rfl
  obtain rfl := Option.some.inj (e.symm.trans hg)
  obtain rfl : t = 212 := (Option.some.inj ((show (Tryz.prog.globals[2]?).map (·.type) = some 212 by kernel_rfl).symm.trans ht)).symm
  have hc := Lib.cells_of_tab Tryz.underlying212 Tryz.underlying22 (by kernel_rfl) (by kernel_rfl) hd
  obtain ⟨cl⟩ := cs
  simp only at hc
  subst hc
  intro i hi
  have h1 := World.var?_cell e hvar i
  rw [h1]
  obtain rfl | rfl | rfl | rfl | rfl | rfl | rfl | rfl : i = 0 ∨ i = 1 ∨ i = 2 ∨ i = 3 ∨ i = 4 ∨ i = 5 ∨ i = 6 ∨ i = 7 := by omega
  all_goals rfl
end Go.Proofs.YtkpginmdnlhfbaaGreatDoor

namespace Go.Proofs.YtkpginmdnlhfbaaGreatDoor
open Go.ChangeShapes Go.WideShapes Go.ChangeAt Go.RowKit
set_option linter.unusedVariables false
set_option linter.unusedSimpArgs false

/-- The states behind m numbers, the newest first. -/
def frL : Nat → List Int
  | 0 => []
  | m + 1 => (if m % 2 = 1 then 1 else 0) :: frL m
theorem frL_len : ∀ m, (frL m).length = m
  | 0 => rfl
  | m + 1 => by rw [frL, List.length_cons, frL_len m]
theorem frL_mem : ∀ m v, v ∈ frL m → v = 0 ∨ v = 1 := by
  intro m
  induction m with
  | zero => intro v hv; cases hv
  | succ m ih =>
    intro v hv
    rw [frL] at hv
    rcases List.mem_cons.1 hv with h | h
    · rw [h]; split
      · exact .inr rfl
      · exact .inl rfl
    · exact ih v h
theorem frL_get (m j : Nat) (hj : j < m) : ∃ v, (frL m)[j]? = some v ∧ v ≠ 3 := by
  refine ⟨_, List.getElem?_eq_getElem (by rw [frL_len]; exact hj), fun e => ?_⟩
  have h := frL_mem m _ (List.getElem_mem (by rw [frL_len]; exact hj))
  rw [e] at h
  rcases h with h | h <;> cases h
theorem trim_full (l : List Int) (m : Nat) (ht : Trim l m) (h : ∀ v ∈ l, v ≠ 3) : l.take m = l := by
  by_cases h1 : m < l.length
  · have h2 := ht.lost m (Nat.le_refl _) h1
    exact absurd rfl (h 3 (List.mem_of_getElem? h2))
  · exact List.take_of_length_le (by omega)
theorem leadL_one (l : List Int) (st : Int) (h : l.length < 250) : leadL l 1 st = st :: l := by
  unfold leadL
  rw [show List.replicate 1 (3 : Int) ++ l = 3 :: l from rfl, List.take_of_length_le (by simp; omega)]
  rfl
/-- The number i steps on. -/
def sN (first i : Nat) : Nat := (first + i) % 281474976710656
theorem sN_step (first i : Nat) : stepI first (i : Int) = (sN first i : Int) := by unfold stepI sN; omega
theorem sN_lt (first i : Nat) : sN first i < 281474976710656 := Nat.mod_lt _ (by decide)
theorem sN_diff (first i j : Nat) (hi : i ≤ 1000) (hj : j ≤ 1000) : diffI (sN first i) (sN first j) = (i : Int) - (j : Int) := by unfold diffI sN; omega
theorem sN_back (first i j : Nat) (hi : i ≤ 1000) (hj : j ≤ i) : stepI (sN first i) (-(j : Int)) = (sN first (i - j) : Int) := by unfold stepI sN; omega
theorem frPut (first i : Nat) (hi : 1 ≤ i) (hi2 : i ≤ 70) (mark : Bool) (hm : stOf mark = if i % 2 = 1 then 1 else 0) (C g cap : Nat) (w : World) (h : GotR (sN first (i - 1)) (frL i) 0 false C g cap w) :
    Calls Tryz.prog 15 #[.pointer (some ⟨C, 0, none⟩), .int .u64 (sN first i), .bool mark] w fun e w' => e = .returned (.bool true) ∧ ∃ g2 cap2, GotR (sN first i) (frL (i + 1)) 0 false C g2 cap2 w' ∧ (g2 = g ∨ w.heap.size ≤ g2) ∧ Kept [C, g] w w' := by
  have b0 := sN_lt first (i - 1)
  have b1 := sN_lt first i
  have hd : diffI (sN first (i - 1)) (sN first i) = -((1 : Nat) : Int) := by rw [sN_diff first (i - 1) i (by omega) (by omega)]; omega
  refine (gotPut_leadR (sN first (i - 1)) (by omega) (frL i) (by rw [frL_len]; exact hi) (by rw [frL_len]; omega) 0 (by decide) false (sN first i) (by omega) rfl 1 hd (by decide) (by decide) 1 rfl mark (sN first i) (Nat.mod_eq_of_lt b1) C g cap w h).mono ?_
  rintro e w' ⟨rfl, g2, cap2, m, h2, h3, h4, h5, h6⟩
  have e1 : leadL (frL i) 1 (stOf mark) = frL (i + 1) := by rw [leadL_one _ _ (by rw [frL_len]; omega), hm]; rfl
  rw [e1] at h2 h3
  rw [trim_full (frL (i + 1)) m h3 (fun v hv e => by have h9 := frL_mem _ v hv; rw [e] at h9; rcases h9 with h9 | h9 <;> cases h9)] at h2
  exact ⟨rfl, g2, cap2, h2, h5, h6⟩
theorem forgS_get (first N at_ : Nat) (hN : N ≤ 70) (hat : at_ < N) (l : List Int) (hl : l.length = N) : ∀ i, i ≤ N → ∀ j, (forgS (sN first (N - 1)) (sN first at_) l i)[j]? = if 1 ≤ j ∧ j < i ∧ N - 1 - at_ ≤ j then some 3 else l[j]? := by
  intro i
  induction i with
  | zero => intro _ j; rw [if_neg (by omega)]; rfl
  | succ i ih =>
    intro hi j
    have h1 := ih (by omega)
    unfold forgS
    by_cases h0 : i = 0
    · subst h0
      rw [if_pos rfl, if_neg (by omega)]
    · rw [if_neg h0, sN_back first (N - 1) i (by omega) (by omega), sN_diff first at_ (N - 1 - i) (by omega) (by omega)]
      by_cases h2 : (at_ : Int) - ((N - 1 - i : Nat) : Int) < 0
      · rw [if_pos h2, h1 j]
        by_cases h3 : 1 ≤ j ∧ j < i ∧ N - 1 - at_ ≤ j
        · rw [if_pos h3, if_pos (by omega)]
        · rw [if_neg h3, if_neg (by omega)]
      · rw [if_neg h2, List.getElem?_set, forgS_len, hl]
        by_cases h3 : i = j
        · subst h3
          rw [if_pos rfl, if_pos (by omega), if_pos (by omega)]
        · rw [if_neg h3, h1 j]
          by_cases h4 : 1 ≤ j ∧ j < i ∧ N - 1 - at_ ≤ j
          · rw [if_pos h4, if_pos (by omega)]
          · rw [if_neg h4, if_neg (by omega)]
/-- What is there behind the forgetting. -/
theorem forgR (first N at_ : Nat) (hN1 : 2 ≤ N) (hN : N ≤ 70) (hat : at_ < N) (m : Nat) (ht : Trim (forgS (sN first (N - 1)) (sN first at_) (frL N) N) m) (hm : 0 < m → ∃ v, (forgS (sN first (N - 1)) (sN first at_) (frL N) N)[m - 1]? = some v ∧ v ≠ 3) :
    (forgS (sN first (N - 1)) (sN first at_) (frL N) N).take m = (frL N).take (max (N - 1 - at_) 1) := by
  have HG := forgS_get first N at_ hN hat (frL N) (frL_len N) N (Nat.le_refl _)
  have hlen : (forgS (sN first (N - 1)) (sN first at_) (frL N) N).length = N := by rw [forgS_len, frL_len]
  have hle := ht.le
  rw [hlen] at hle
  have hmM : m = max (N - 1 - at_) 1 := by
    by_cases h1 : m < max (N - 1 - at_) 1
    · have h2 := ht.lost m (Nat.le_refl _) (by rw [hlen]; omega)
      rw [HG m] at h2
      obtain ⟨v, hv, hv3⟩ := frL_get N m (by omega)
      rw [if_neg (by omega), hv] at h2
      cases h2
      exact absurd rfl hv3
    · by_cases h2 : max (N - 1 - at_) 1 < m
      · obtain ⟨v, hv, hv3⟩ := hm (by omega)
        rw [HG (m - 1), if_pos (by omega)] at hv
        cases hv
        exact absurd rfl hv3
      · omega
  rw [← hmM]
  apply List.ext_getElem?
  intro j
  rw [List.getElem?_take, List.getElem?_take]
  by_cases h1 : j < m
  · rw [if_pos h1, if_pos h1, HG j, if_neg (by omega)]
  · rw [if_neg h1, if_neg h1]
/-- The states that stay. -/
def frR (N at_ : Nat) : List Int := (frL N).take (max (N - 1 - at_) 1)
theorem frR_len (N at_ : Nat) (hN1 : 2 ≤ N) : (frR N at_).length = max (N - 1 - at_) 1 := by unfold frR; rw [List.length_take, frL_len]; omega
theorem frR_get (N at_ j : Nat) (hN1 : 2 ≤ N) (hj : j < max (N - 1 - at_) 1) : ∃ v, (frR N at_)[j]? = some v ∧ v ≠ 3 := by
  unfold frR
  rw [List.getElem?_take, if_pos hj]
  exact frL_get N j (by omega)
theorem frR_mem (N at_ : Nat) (v : Int) (hv : v ∈ frR N at_) : v = 0 ∨ v = 1 := frL_mem N v (List.mem_of_mem_take hv)
theorem frHas (first N at_ i : Nat) (hN1 : 2 ≤ N) (hN : N ≤ 70) (hat : at_ < N) (hi : i < N) (C g cap : Nat) (w : World) (h : GotR (sN first (N - 1)) (frR N at_) (sN first at_) true C g cap w) :
    Calls Tryz.prog 30 #[.pointer (some ⟨C, 0, none⟩), .int .u64 (sN first i)] w fun e w' => e = .returned (.bool (decide (at_ < i ∨ i = N - 1))) ∧ w = w' := by
  have b1 := sN_lt first i
  have b0 := sN_lt first (N - 1)
  refine gotHas_any (sN first (N - 1)) (by omega) (frR N at_) (sN first at_) true (sN first i) (by omega) _ C g cap w h ?_
  rw [sN_diff first (N - 1) i (by omega) (by omega), show ((N - 1 : Nat) : Int) - (i : Int) = ((N - 1 - i : Nat) : Int) by omega]
  by_cases h1 : at_ < i ∨ i = N - 1
  · rw [decide_eq_true h1]
    obtain ⟨v, hv, hv3⟩ := frR_get N at_ (N - 1 - i) hN1 (by omega)
    have h2 := gotThere_in (sN first (N - 1)) (frR N at_) (N - 1 - i) v hv (sN first at_) true C g cap w h
    rw [show (!(v == 3)) = true by rw [beq_eq_false_iff_ne.2 hv3]; rfl] at h2
    exact h2
  · rw [decide_eq_false h1]
    exact gotThere_out (sN first (N - 1)) (frR N at_) _ (by omega) (by omega) (.inr (by rw [frR_len N at_ hN1]; omega)) (sN first at_) true C g cap w h
theorem frAgain (first N at_ i : Nat) (hN1 : 2 ≤ N) (hN : N ≤ 70) (hat : at_ < N) (hi : i < N) (C g cap : Nat) (w : World) (h : GotR (sN first (N - 1)) (frR N at_) (sN first at_) true C g cap w) :
    Calls Tryz.prog 15 #[.pointer (some ⟨C, 0, none⟩), .int .u64 (sN first i), .bool false] w fun e w' => e = .returned (.bool false) ∧ w = w' := by
  have b1 := sN_lt first i
  have b0 := sN_lt first (N - 1)
  have b2 := sN_lt first at_
  by_cases h1 : at_ < i
  · obtain ⟨v, hv, hv3⟩ := frR_get N at_ (N - 1 - i) hN1 (by omega)
    refine gotPut_noR (sN first (N - 1)) (by omega) (frR N at_) (by rw [frR_len N at_ hN1]; omega) (sN first at_) (by omega) true (sN first i) (by omega) ?_ (N - 1 - i) ?_ (.inr ⟨by omega, v, hv, hv3⟩) (by omega) false C g cap w h
    · rw [sN_diff first at_ i (by omega) (by omega), decide_eq_true (by omega)]; rfl
    · rw [sN_diff first (N - 1) i (by omega) (by omega)]; omega
  · refine gotPut_forg (sN first (N - 1)) _ (sN first at_) (by omega) true (sN first i) (by omega) ?_ false C w h.blk
    rw [sN_diff first at_ i (by omega) (by omega), decide_eq_false (by omega)]; rfl
theorem frBehind (first N at_ i y : Nat) (hN : N ≤ 70) (hat : at_ < N) (hi : i < N) (hy : stepI first (-1 - (i : Int)) = (y : Int)) (C g cap : Nat) (w : World) (h : GotR (sN first (N - 1)) (frR N at_) (sN first at_) true C g cap w) :
    Calls Tryz.prog 15 #[.pointer (some ⟨C, 0, none⟩), .int .u64 y, .bool false] w fun e w' => e = .returned (.bool false) ∧ w = w' := by
  have b2 := sN_lt first at_
  have hyb : y < 281474976710656 := by unfold stepI at hy; omega
  refine gotPut_forg (sN first (N - 1)) _ (sN first at_) (by omega) true y (by omega) ?_ false C w h.blk
  have : diffI (sN first at_) y = (at_ : Int) + 1 + (i : Int) := by unfold stepI at hy; unfold diffI sN; omega
  rw [this, decide_eq_false (by omega)]; rfl
/-- What Spread makes of the Cells: as many states. -/
theorem gotSpreadR (n : Nat) (R : List Int) (hR : ∀ v ∈ R, 0 ≤ v ∧ v ≤ 1) (hlen : R.length ≤ 250) (H0 : Nat) (v : Value) (w w1 : World) (h1 : CelOwn H0 v (ofR R) w w1) :
    Calls Tryz.prog 17 #[v] w1 fun e w' => ∃ p c, e = .returned (.slice p R.length c) ∧ Below w1.heap.size w1 w' := by
  have hall : R.all stB = true := by
    rw [List.all_eq_true]
    intro z hz
    have := hR z hz
    unfold stB
    rcases (show z = 0 ∨ z = 1 by omega) with rfl | rfl <;> decide
  obtain ⟨f1, f2, f3, f4, f5⟩ := of_facts R hall (by omega)
  have hat : C2At w1 v (ofR R) := h1.at (by omega) (fun i => by
    rw [List.getD_eq_getElem?_getD]
    cases hi : (ofR R)[i]? with
    | none => exact (by decide : -9223372036854775808 ≤ (0 : Int) ∧ (0 : Int) ≤ 9223372036854775807)
    | some c =>
      have := f4 c (List.mem_of_getElem? hi)
      simp only [Option.getD_some]
      omega)
  refine (vecSpread_any v (ofR R) w1 hat).mono ?_
  rintro e w' ⟨v', rfl, hv'⟩
  rw [f2] at hv'
  obtain ⟨⟨hv1, hv2, hv3⟩, hv4⟩ : I64At w' v' R ∧ Below w1.heap.size w1 w' := ⟨hv'.at (by omega) (fun i => by
    rw [List.getD_eq_getElem?_getD]
    cases hi : R[i]? with
    | none => exact (by decide : -9223372036854775808 ≤ (0 : Int) ∧ (0 : Int) ≤ 9223372036854775807)
    | some c =>
      have := hR c (List.mem_of_getElem? hi)
      simp only [Option.getD_some]
      omega), hv'.2.1⟩
  obtain ⟨p, c, e1, _⟩ := hv1
  exact ⟨p, c, by rw [e1], hv4⟩
/-- Behind i numbers. -/
def FrI (first i C B : Nat) (W : World) : Prop := (i = 0 ∧ BlkIs (gotCellsR 0 (.slice none 0 0) 0 false) 91 C W) ∨ (1 ≤ i ∧ ∃ g cap, GotR (sN first (i - 1)) (frL i) 0 false C g cap W ∧ B ≤ g)
theorem frStep (first i C B : Nat) (hi2 : i ≤ 70) (mark : Bool) (hm : stOf mark = if i % 2 = 1 then 1 else 0) (hB : B ≤ C) (w W : World) (hw : w.heap.size = B) (hb : Below B w W) (h : FrI first i C B W) :
    Calls Tryz.prog 15 #[.pointer (some ⟨C, 0, none⟩), .int .u64 (sN first i), .bool mark] W fun e w' => e = .returned (.bool true) ∧ FrI first (i + 1) C B w' ∧ Below B w w' := by
  have hs := hb.size
  have b1 := sN_lt first i
  rcases h with ⟨h0, h1⟩ | ⟨h0, g, cap, h1, h2⟩
  · subst h0
    refine (gotPut_firstR (sN first 0) (by omega) mark (sN first 0) (Nat.mod_eq_of_lt b1) C W h1).mono ?_
    rintro e w' ⟨g, rfl, h3, h4, h5⟩
    refine ⟨rfl, .inr ⟨Nat.le_refl _, g, 1, ?_, by omega⟩, hb.trans (h4.below (by omega) (by intro x hx; simp at hx; omega))⟩
    have e1 : frL (0 + 1) = [stOf mark] := by rw [hm]; rfl
    rw [e1]
    exact h3
  · refine (frPut first i h0 hi2 mark hm C g cap W h1).mono ?_
    rintro e w' ⟨rfl, g2, cap2, h3, h4, h5⟩
    refine ⟨rfl, .inr ⟨by omega, g2, cap2, by rw [Nat.add_sub_cancel]; exact h3, by omega⟩, hb.trans (h5.below (by omega) (by intro x hx; simp at hx; omega))⟩
theorem frForget (first N K : Nat) (hN1 : 2 ≤ N) (hN : N ≤ 70) (hK : K < N) (C g cap : Nat) (w : World) (h : GotR (sN first (N - 1)) (frL N) 0 false C g cap w) :
    Calls Tryz.prog 29 #[.pointer (some ⟨C, 0, none⟩), .int .u64 (sN first K)] w fun e w' => e = .returned (.tuple #[]) ∧ GotR (sN first (N - 1)) (frR N K) (sN first K) true C g cap w' ∧ Kept [C, g] w w' := by
  have b0 := sN_lt first (N - 1)
  have b1 := sN_lt first K
  have hy : (maxI (sN first K) [sN first K] : Int) % 281474976710656 = (sN first K : Int) := by
    have : maxI (sN first K) [sN first K] = sN first K := by unfold maxI; simp [maxStep]
    rw [this]; omega
  refine (gotForget_first (sN first (N - 1)) (by omega) (frL N) (by rw [frL_len]; omega) (by rw [frL_len]; omega) (sN first K) (by omega) (sN first K) hy C g cap w h).mono ?_
  rintro e w' ⟨rfl, m, h1, h2, h3, h4⟩
  rw [frL_len] at h1 h2 h3
  rw [forgR first N K hN1 hN hK m h2 h3] at h1
  exact ⟨rfl, h1, h4⟩
set_option maxHeartbeats 8000000 in
set_option maxRecDepth 100000 in
theorem gotForget_walk (first : Nat) (hfi : first < 18446744073709551616) (nn aa : Int) (n1 : -9223372036854775808 ≤ nn) (n2 : nn ≤ 9223372036854775807) (m1 : -9223372036854775808 ≤ aa) (m2 : aa ≤ 9223372036854775807) (w : World) (hT : TabW w) :
    Calls Tryz.prog 8 #[.int .u64 first, .int .i64 nn, .int .i64 aa] w fun e w' => e = .returned (.bool true) ∧ Below w.heap.size w w' := by
  have HBG : Hid (Calls Tryz.prog 13 #[] w fun e w' => e = .returned (.bool true) ∧ Below w.heap.size w w') := Lib.hid (begun8_any w hT)
  clear hT
  obtain ⟨a, ha, a1, a2, J, hJ, hJ3⟩ := mod_at nn 60 (by decide)
  obtain ⟨N, hN⟩ : ∃ N : Nat, 2 + (J : Int) = (N : Int) := ⟨2 + J, by omega⟩
  have hN1 : 2 ≤ N := by omega
  have hN2 : N < 62 := by omega
  have hN0 : ¬ N = 0 := by omega
  obtain ⟨b, hb, b1, b2, K, hK, hK3⟩ := mod_at aa (N : Int) (by omega)
  have hKN : K < N := by omega
  obtain ⟨B, hB⟩ : ∃ B, w.heap.size = B := ⟨_, rfl⟩
  have HBe := Lib.hid hB
  have HST : Hid (∀ i : Nat, i ≤ 100 → ∀ W, Calls Tryz.prog 16 #[.int .u64 first, .int .i64 i] W fun e w' => e = .returned (.int .u64 (sN first i : Int)) ∧ W = w') := Lib.hid (fun i hi W => by rw [← sN_step]; exact refStep_any first i hfi (by omega) (by omega) W)
  have HSTK := Lib.hid (HST.out K (by omega))
  have HFG := Lib.hid (fun C g cap W h => frForget first N K hN1 (by omega) hKN C g cap W h)
  have HNW := Lib.hid (fun C g cap W h => gotNewest_any (sN first (N - 1)) (frR N K) (by rw [frR_len N K hN1]; omega) (sN first K) true C g cap W h)
  have HCE := Lib.hid (fun C g cap W h => gotCells_any (sN first (N - 1)) (frR N K) (by rw [frR_len N K hN1]; omega) (fun v hv => by have := frR_mem N K v hv; omega) (sN first K) true C g cap W h)
  obtain ⟨M, hM⟩ : ∃ M : Nat, max (N - 1 - K) 1 = M := ⟨_, rfl⟩
  have HSP : Hid (∀ (H0 : Nat) (v : Value) (W W1 : World) (h1 : CelOwn H0 v (ofR (frR N K)) W W1), Calls Tryz.prog 17 #[v] W1 fun e w' => ∃ p c, e = .returned (.slice p M c) ∧ Below W1.heap.size W1 w') := Lib.hid (fun H0 v W W1 h1 => by
    have h2 := gotSpreadR 0 (frR N K) (fun v hv => by have := frR_mem N K v hv; omega) (by rw [frR_len N K hN1]; omega) H0 v W W1 h1
    rw [frR_len N K hN1, hM] at h2
    exact h2)
  have HSTN : Hid (∀ W, Calls Tryz.prog 16 #[.int .u64 first, .int .i64 ((N : Int) - 1)] W fun e w' => e = .returned (.int .u64 (sN first (N - 1) : Int)) ∧ W = w') := Lib.hid (fun W => by
    have h1 := HST.out (N - 1) (by omega) W
    rw [show ((N - 1 : Nat) : Int) = (N : Int) - 1 by omega] at h1
    exact h1)
  obtain ⟨x1, x2, _⟩ := mxi ((N : Int) - 1 - (K : Int)) 1 (M : Int) (by omega)
  have HM := Lib.hid hM
  go_enter Tryz.func8, Tryz.ntmps8
  go_upto_region 7 with (first
    | (go_at_call 13; (with_reducible refine HBG.out.mono ?_); rintro e w0 ⟨rfl, hb0⟩)
    | (go_at_call 14; (with_reducible refine (gotNew_any _).mono ?_); rintro e w1 ⟨C, rfl, hg1, hc1, hb1⟩))
  have HB1 : Hid (Below B w w1) := Lib.hid (by rw [← hB]; exact bel_trans hb0 hb1)
  have HBC : Hid (B ≤ C) := Lib.hid (by rw [← hB]; exact Nat.le_trans hb0.size hc1)
  have HI0 : Hid (FrI first 0 C B w1) := Lib.hid (.inl ⟨rfl, hg1⟩)
  clear hb0 hg1 hc1 hb1 ha hJ hN hb hK hB hM
  go_wp2
  go_loopw [9] (fun iv wr => ∃ i : Nat, iv = .int .i64 (i : Int) ∧ i ≤ N ∧ Hid (FrI first i C B wr) ∧ Hid (Below B w wr)) (fun iv _ => N - (intOf iv).toNat)
  case atStart => exact ⟨0, rfl, Nat.zero_le _, HI0, HB1⟩
  case round =>
    clear HI0
    obtain ⟨i, rfl, hi, hI, hbl⟩ := hrel
    by_cases hlt : i < N
    · have d1 : decide ((i : Int) < (N : Int)) = true := decide_eq_true (by omega)
      have HSI := Lib.hid (HST.out i (by omega))
      rcases Nat.mod_two_eq_zero_or_one i with h2 | h2
      · have hm : (i : Int).tmod 2 = 0 := by rw [Int.tmod_eq_emod_of_nonneg (by omega)]; omega
        have HP := Lib.hid (frStep first i C B (by omega) false (by rw [h2]; rfl) HBC.out w wr HBe.out hbl.out hI.out)
        clear h2
        go_wp2_with (first
          | (go_at_call 16; (with_reducible refine (HSI.out _).mono ?_); rintro e w2 ⟨rfl, rfl⟩)
          | (go_at_call 15; (with_reducible refine HP.out.mono ?_); rintro e w3 ⟨rfl, hI3, hb3⟩))
        refine ⟨⟨i + 1, by go_num, by omega, Lib.hid hI3, Lib.hid hb3⟩, ?_⟩
        simp [intOf]; omega
      · have hm : (i : Int).tmod 2 = 1 := by rw [Int.tmod_eq_emod_of_nonneg (by omega)]; omega
        have HP := Lib.hid (frStep first i C B (by omega) true (by rw [h2]; rfl) HBC.out w wr HBe.out hbl.out hI.out)
        clear h2
        go_wp2_with (first
          | (go_at_call 16; (with_reducible refine (HSI.out _).mono ?_); rintro e w2 ⟨rfl, rfl⟩)
          | (go_at_call 15; (with_reducible refine HP.out.mono ?_); rintro e w3 ⟨rfl, hI3, hb3⟩))
        refine ⟨⟨i + 1, by go_num, by omega, Lib.hid hI3, Lib.hid hb3⟩, ?_⟩
        simp [intOf]; omega
    · have d1 : decide ((i : Int) < (N : Int)) = false := decide_eq_false (by omega)
      obtain rfl : i = N := by omega
      obtain ⟨g, cap, hg, hgB⟩ : ∃ g cap, GotR (sN first (i - 1)) (frL i) 0 false C g cap wr ∧ B ≤ g := by
        rcases hI.out with ⟨h0, _⟩ | ⟨_, g, cap, h1, h2⟩
        · omega
        · exact ⟨g, cap, h1, h2⟩
      have HG := Lib.hid hg
      clear hg hI
      go_upto_region 12 with (first
        | (go_at_call 16; (with_reducible refine (HSTK.out _).mono ?_); rintro e w2 ⟨rfl, rfl⟩)
        | (go_at_call 29; (with_reducible refine (HFG.out _ _ _ _ HG.out).mono ?_); rintro e w4 ⟨rfl, hg4, hk4⟩))
      have HB4 : Hid (Below B w w4) := Lib.hid (hbl.out.trans (hk4.below (by have := HBe.out; have := hbl.out.size; omega) (by intro x hx; have := HBC.out; simp at hx; omega)))
      have H4 : Hid (∀ m, GotR (sN first (i - 1)) (frR i K) (sN first K) true C g cap (w4.drewN m)) := Lib.hid (fun m => hg4.drewN m)
      have HHA := Lib.hid (fun (q : Nat) (hq : q < i) m => frHas first i K q hN1 (by omega) hKN hq C g cap _ (H4.out m))
      have HAG := Lib.hid (fun (q : Nat) (hq : q < i) m => frAgain first i K q hN1 (by omega) hKN hq C g cap _ (H4.out m))
      have HBH := Lib.hid (fun (q : Nat) (hq : q < i) (y : Nat) (hy : stepI first (-1 - (q : Int)) = (y : Int)) m => frBehind first i K q y (by omega) hKN hq hy C g cap _ (H4.out m))
      clear hg4 hk4 HG HFG hbl
      go_wp2
      go_loopw [10, 11] (fun iv _ wr => ∃ q : Nat, iv = .int .i64 (q : Int) ∧ q ≤ i ∧ ∃ m, wr = w4.drewN m) (fun iv _ _ => i - (intOf iv).toNat)
      case atStart => exact ⟨0, rfl, Nat.zero_le _, 0, rfl⟩
      case round =>
        obtain ⟨q, rfl, hq, m, rfl⟩ := hrel
        by_cases hlq : q < i
        · have e1 : decide ((q : Int) < (i : Int)) = true := decide_eq_true (by omega)
          have HSI := Lib.hid (HST.out q (by omega))
          obtain ⟨y, hy⟩ : ∃ y : Nat, stepI first (-1 - (q : Int)) = (y : Int) := ⟨(stepI first (-1 - (q : Int))).toNat, by unfold stepI; omega⟩
          have HSY : Hid (∀ W, Calls Tryz.prog 16 #[.int .u64 first, .int .i64 (-1 - (q : Int))] W fun e w' => e = .returned (.int .u64 (y : Int)) ∧ W = w') := Lib.hid (fun W => by rw [← hy]; exact refStep_any first _ hfi (by omega) (by omega) W)
          have HH := Lib.hid (HHA.out q hlq)
          have HA := Lib.hid (HAG.out q hlq)
          have HY := Lib.hid (HBH.out q hlq y hy)
          clear hy
          have hcs : K < q ∨ (¬ K < q ∧ q = i - 1) ∨ (¬ K < q ∧ ¬ q = i - 1) := by omega
          rcases hcs with c1 | ⟨c1, c2⟩ | ⟨c1, c2⟩
          · have f1 : decide ((K : Int) < (q : Int)) = true := decide_eq_true (by omega)
            rw [decide_eq_true (show K < q ∨ q = i - 1 from .inl c1)] at HH
            go_wp2_with (first
              | (go_at_call 16; (first
                  | ((with_reducible refine (HSI.out _).mono ?_); rintro e w5 ⟨rfl, rfl⟩)
                  | ((with_reducible refine (HSY.out _).mono ?_); rintro e w5 ⟨rfl, rfl⟩)))
              | (go_at_call 30; (with_reducible refine (HH.out _).mono ?_); rintro e w6 ⟨rfl, rfl⟩)
              | (go_at_call 15; (first
                  | ((with_reducible refine (HA.out _).mono ?_); rintro e w7 ⟨rfl, rfl⟩)
                  | ((with_reducible refine (HY.out _).mono ?_); rintro e w7 ⟨rfl, rfl⟩))))
            refine ⟨⟨q + 1, by go_num, by omega, _, rfl⟩, ?_⟩
            simp [intOf]; omega
          · have f1 : decide ((K : Int) < (q : Int)) = false := decide_eq_false (by omega)
            have f2 : ((q : Int) == (i : Int) - 1) = true := by rw [beq_iff_eq]; omega
            rw [decide_eq_true (show K < q ∨ q = i - 1 from .inr c2)] at HH
            clear c2
            go_wp2_with (first
              | (go_at_call 16; (first
                  | ((with_reducible refine (HSI.out _).mono ?_); rintro e w5 ⟨rfl, rfl⟩)
                  | ((with_reducible refine (HSY.out _).mono ?_); rintro e w5 ⟨rfl, rfl⟩)))
              | (go_at_call 30; (with_reducible refine (HH.out _).mono ?_); rintro e w6 ⟨rfl, rfl⟩)
              | (go_at_call 15; (first
                  | ((with_reducible refine (HA.out _).mono ?_); rintro e w7 ⟨rfl, rfl⟩)
                  | ((with_reducible refine (HY.out _).mono ?_); rintro e w7 ⟨rfl, rfl⟩))))
            refine ⟨⟨q + 1, by go_num, by omega, _, rfl⟩, ?_⟩
            simp [intOf]; omega
          · have f1 : decide ((K : Int) < (q : Int)) = false := decide_eq_false (by omega)
            have f2 : ((q : Int) == (i : Int) - 1) = false := by rw [beq_eq_false_iff_ne]; omega
            rw [decide_eq_false (show ¬ (K < q ∨ q = i - 1) by omega)] at HH
            clear c2
            go_wp2_with (first
              | (go_at_call 16; (first
                  | ((with_reducible refine (HSI.out _).mono ?_); rintro e w5 ⟨rfl, rfl⟩)
                  | ((with_reducible refine (HSY.out _).mono ?_); rintro e w5 ⟨rfl, rfl⟩)))
              | (go_at_call 30; (with_reducible refine (HH.out _).mono ?_); rintro e w6 ⟨rfl, rfl⟩)
              | (go_at_call 15; (first
                  | ((with_reducible refine (HA.out _).mono ?_); rintro e w7 ⟨rfl, rfl⟩)
                  | ((with_reducible refine (HY.out _).mono ?_); rintro e w7 ⟨rfl, rfl⟩))))
            refine ⟨⟨q + 1, by go_num, by omega, _, rfl⟩, ?_⟩
            simp [intOf]; omega
        · have e1 : decide ((q : Int) < (i : Int)) = false := decide_eq_false (by omega)
          obtain rfl : q = i := by omega
          have HW5 := Lib.hid (HB4.out.trans ((bel_drewN w4 m).mono (by have := HB4.out.size; have := HBe.out; omega)))
          have H5 := Lib.hid (H4.out m)
          generalize w4.drewN m = w5 at *
          clear HHA HAG HBH H4
          go_wp2_with (first
            | (go_at_call 18; (with_reducible refine (HCE.out _ _ _ _ H5.out).mono ?_); rintro e w6 ⟨v, rfl, hv6⟩; have hbl6 := hv6.2.1; have H6 := Lib.hid (H5.out.below hbl6))
            | (go_at_call 17; (with_reducible refine (HSP.out _ _ _ _ hv6).mono ?_); rintro e w7 ⟨p, c, rfl, hb7⟩; have H7 := Lib.hid (H6.out.below hb7))
            | (go_at_call 31; (with_reducible refine (HNW.out _ _ _ _ H7.out).mono ?_); rintro e w8 ⟨rfl, rfl⟩)
            | (go_at_call 16; (with_reducible refine (HSTN.out _).mono ?_); rintro e w9 ⟨rfl, rfl⟩))
          go_ret
          have hbe := HBe.out
          subst hbe
          exact ⟨rfl, (HW5.out.trans ((bel_trans hbl6 hb7).mono (by have := HW5.out.size; omega)))⟩
end Go.Proofs.YtkpginmdnlhfbaaGreatDoor
