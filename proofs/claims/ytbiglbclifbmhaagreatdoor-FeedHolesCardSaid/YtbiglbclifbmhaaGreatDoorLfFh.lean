/-
  What the laid table of the weights says.
  Package feed: holes, each behind the other: what is kept.
  Package feed: holes, each behind the other: one more number.
  The law FeedHoles, walked.
-/
import Derived.Test.YtbiglbclifbmhaaGreatDoorIvalA
import Derived.Test.YtbiglbclifbmhaaGreatDoorRows
import Derived.Lib.LaidU8
import Derived.Lib.LaidTab
import Derived.MakeChecks
import Derived.OpenShut
import Derived.Test.YtbiglbclifbmhaaGreatDoorLfFe
import Derived.Test.YtbiglbclifbmhaaGreatDoorBegun8
namespace Go.Proofs.YtbiglbclifbmhaaGreatDoor
open Go.ChangeShapes Go.WideShapes Go.ChangeAt Go.RowKit
set_option linter.unusedVariables false
set_option linter.unusedSimpArgs false

theorem tabW_laid {W : World} {l : List (String × DataW Unit)} (h : laidMet Tryz.prog l W) (hm : ("muleteer/ival.weights", (Rows.laid_muleteer_ival_weights : DataW Unit)) ∈ l) : TabW W := by
  obtain ⟨ps, h, _⟩ := h
  obtain ⟨g, t, cs, fuel, p, hg, ht, hvar, hd⟩ := Lib.LaidVars_reads h _ _ hm
  rw [show (Rows.laid_muleteer_ival_weights : DataW Unit) = Lib.tabData .u64 [5, 5, 5, 5, 4, 3, 2, 1] by kernel_rfl] at hd
  have e : Tryz.prog.globalNamed "muleteer/ival.weights" = some 2 := by kernel_rfl
  obtain rfl := Option.some.inj (e.symm.trans hg)
  obtain rfl : t = 201 := (Option.some.inj ((show (Tryz.prog.globals[2]?).map (·.type) = some 201 by kernel_rfl).symm.trans ht)).symm
  have hc := Lib.cells_of_tab Tryz.underlying201 Tryz.underlying22 (by kernel_rfl) (by kernel_rfl) hd
  obtain ⟨cl⟩ := cs
  simp only at hc
  subst hc
  intro i hi
  have h1 := World.var?_cell e hvar i
  rw [h1]
  obtain rfl | rfl | rfl | rfl | rfl | rfl | rfl | rfl : i = 0 ∨ i = 1 ∨ i = 2 ∨ i = 3 ∨ i = 4 ∨ i = 5 ∨ i = 6 ∨ i = 7 := by omega
  all_goals rfl
end Go.Proofs.YtbiglbclifbmhaaGreatDoor

namespace Go.Proofs.YtbiglbclifbmhaaGreatDoor
set_option linter.unusedVariables false
set_option linter.unusedSimpArgs false

/-- From the newest hole on: its state, the gap's numbers, the elder holes. -/
def hL (gap : Nat) (ap : Int) : Nat → Int → List (Int × Int)
  | 0, _ => []
  | i + 1, st => (st, 0) :: (List.replicate gap (1, (i : Int) * ap) ++ hL gap ap i 2)
theorem hL_len (gap : Nat) (ap : Int) : ∀ i st, (hL gap ap i st).length = i * (gap + 1)
  | 0, _ => by simp [hL]
  | i + 1, st => by
    show (_ :: (List.replicate gap _ ++ hL gap ap i 2)).length = _
    rw [List.length_cons, List.length_append, List.length_replicate, hL_len gap ap i 2, Nat.succ_mul]
    omega
theorem hL_old (gap : Nat) (ap : Int) : ∀ i (p : Int × Int), p ∈ hL gap ap i 2 → p.1 ≠ 0
  | 0, p, h => by cases h
  | i + 1, p, h => by
    rcases List.mem_cons.1 h with h | h
    · rw [h]; decide
    · rcases List.mem_append.1 h with h | h
      · rw [(List.mem_replicate.1 h).2]; show (1 : Int) ≠ 0; decide
      · exact hL_old gap ap i p h
/-- The numbers behind r + 1 of round i. -/
def hN (gap : Nat) (ap : Int) (i r : Nat) (st : Int) (Z : Nat) : List (Int × Int) := List.replicate (r + 1) (1, (i : Int) * ap) ++ (hL gap ap i st ++ List.replicate Z (0, 0))
/-- Which events c losses make, and when the last one was. -/
def evs (ap : Int) : Nat → Nat × Int
  | 0 => (0, -1152921504606846976)
  | c + 1 => if (evs ap c).2 + 1000 < ((c : Int) + 1) * ap ∨ c = 0 then ((evs ap c).1 + 1, ((c : Int) + 1) * ap) else evs ap c
theorem evs_le (ap : Int) : ∀ c, (evs ap c).1 ≤ c
  | 0 => Nat.le_refl _
  | c + 1 => by
    have h := evs_le ap c
    unfold evs
    split
    · simp only; omega
    · omega
theorem evs_pos (ap : Int) : ∀ c, 1 ≤ c → 1 ≤ (evs ap c).1
  | 0, h => by omega
  | c + 1, _ => by
    unfold evs
    split
    · simp only; omega
    · rename_i h
      exact evs_pos ap c (by omega)
/-- So many are taken for lost. -/
def hC (i r : Nat) : Nat := if r < 2 then i - 1 else i
structure HoG (first gap : Nat) (ap : Int) (i r : Nat) (x : FeS) : Prop where
  span : x.s.span = ((i * (gap + 1) + r + 1 : Nat) : Int)
  fst : x.s.first = nF first 0
  new : x.s.newest = nF first (i * (gap + 1) + r)
  nums : ∃ Z, x.s.nums = hN gap ap i r (if r < 2 then 0 else 2) Z
  now : x.s.now = (i : Int) * ap
  round : x.s.round = 1000
  lost : x.s.lost = (hC i r : Int)
  evn : x.l.length = (evs ap (hC i r)).1
  eat : 1 ≤ hC i r → x.s.eat = (evs ap (hC i r)).2 ∧ x.l.getLast? = some gap ∧ ∃ e ≤ 300, x.s.en = nF first e
theorem getD_left {α : Type} (a b : List α) (d : α) (i : Nat) (h : i < a.length) : (a ++ b).getD i d = a.getD i d := by
  rw [List.getD_eq_getElem?_getD, List.getElem?_append_left h, List.getD_eq_getElem?_getD]
theorem getD_right {α : Type} (a b : List α) (d : α) (i : Nat) (h : a.length ≤ i) : (a ++ b).getD i d = b.getD (i - a.length) d := by
  rw [List.getD_eq_getElem?_getD, List.getElem?_append_right h, List.getD_eq_getElem?_getD]
theorem getD_rep {α : Type} (n : Nat) (a d : α) (i : Nat) (h : i < n) : (List.replicate n a).getD i d = a := by
  rw [List.getD_eq_getElem?_getD, List.getElem?_replicate, if_pos h]; rfl
theorem hN_got (gap : Nat) (ap : Int) (i r : Nat) (st : Int) (Z k : Nat) (h : k ≤ r) : (hN gap ap i r st Z).getD k (0, 0) = (1, (i : Int) * ap) := by
  unfold hN
  rw [getD_left _ _ _ _ (by rw [List.length_replicate]; omega), getD_rep _ _ _ _ (by omega)]
/-- The newest hole. -/
theorem hN_hole (gap : Nat) (ap : Int) (i r : Nat) (st : Int) (Z : Nat) : (hN gap ap (i + 1) r st Z).getD (r + 1) (0, 0) = (st, 0) := by
  unfold hN
  rw [getD_right _ _ _ _ (by rw [List.length_replicate]; omega), List.length_replicate, Nat.sub_self]
  rfl
/-- Behind it none is missing. -/
theorem hN_old (gap : Nat) (ap : Int) (i r : Nat) (st : Int) (Z k : Nat) (h1 : r + 1 < k) (h2 : k < i * (gap + 1) + r + 1) : ((hN gap ap i r st Z).getD k (0, 0)).1 ≠ 0 := by
  rcases i with _ | i
  · omega
  · have hl := hL_len gap ap (i + 1) st
    unfold hN
    rw [getD_right _ _ _ _ (by rw [List.length_replicate]; omega), List.length_replicate, getD_left _ _ _ _ (by omega)]
    obtain ⟨q, hq⟩ : ∃ q, k - (r + 1) = q + 1 := ⟨k - (r + 1) - 1, by omega⟩
    rw [hq]
    show ((List.replicate gap (1, (i : Int) * ap) ++ hL gap ap i 2).getD q (0, 0)).1 ≠ 0
    have hq2 : q < (List.replicate gap ((1 : Int), (i : Int) * ap) ++ hL gap ap i 2).length := by
      rw [List.length_append, List.length_replicate, hL_len]
      rw [Nat.succ_mul] at h2
      omega
    rw [List.getD_eq_getElem?_getD, List.getElem?_eq_getElem hq2]
    have hm := List.getElem_mem hq2
    rcases List.mem_append.1 hm with h | h
    · rw [show ((List.replicate gap ((1 : Int), (i : Int) * ap) ++ hL gap ap i 2)[q]) = (1, (i : Int) * ap) from (List.mem_replicate.1 h).2]
      show (1 : Int) ≠ 0
      decide
    · exact hL_old gap ap i _ h
theorem hN_set (gap : Nat) (ap : Int) (i r Z : Nat) : (hN gap ap (i + 1) r 0 Z).set (r + 1) (2, 0) = hN gap ap (i + 1) r 2 Z := by
  unfold hN
  rw [List.set_append_right _ _ (by rw [List.length_replicate]; omega), List.length_replicate, Nat.sub_self]
  rfl
theorem hN_len (gap : Nat) (ap : Int) (i r : Nat) (st : Int) (Z : Nat) : (hN gap ap i r st Z).length = r + 1 + (i * (gap + 1) + Z) := by
  unfold hN
  rw [List.length_append, List.length_replicate, List.length_append, hL_len, List.length_replicate]
/-- One more of the same round. -/
theorem hN_more (gap : Nat) (ap : Int) (i r : Nat) (st : Int) (Z : Nat) : (List.replicate 1 ((0 : Int), (0 : Int)) ++ (hN gap ap i r st (Z + 1)).take ((hN gap ap i r st (Z + 1)).length - 1)).set 0 (1, (i : Int) * ap) = hN gap ap i (r + 1) st Z := by
  have e : hN gap ap i r st (Z + 1) = hN gap ap i r st Z ++ [(0, 0)] := by
    unfold hN
    rw [List.append_assoc, List.append_assoc, List.replicate_succ' (n := Z)]
  rw [e, List.length_append, List.length_singleton, Nat.add_sub_cancel, List.take_left']
  · unfold hN
    rw [List.replicate_succ (n := r + 1)]
    rfl
  · rfl
/-- The first one of the next round. -/
theorem hN_next (gap : Nat) (ap : Int) (i r : Nat) (Z : Nat) (hr : r + 1 = gap) : (List.replicate 2 ((0 : Int), (0 : Int)) ++ (hN gap ap i r 2 (Z + 2)).take ((hN gap ap i r 2 (Z + 2)).length - 2)).set 0 (1, ((i + 1 : Nat) : Int) * ap) = hN gap ap (i + 1) 0 0 Z := by
  have e : hN gap ap i r 2 (Z + 2) = hN gap ap i r 2 Z ++ [(0, 0), (0, 0)] := by
    unfold hN
    rw [List.append_assoc, List.append_assoc, show List.replicate (Z + 2) ((0 : Int), (0 : Int)) = List.replicate Z (0, 0) ++ [(0, 0), (0, 0)] by rw [show Z + 2 = Z + 1 + 1 from rfl, List.replicate_succ' (n := Z + 1), List.replicate_succ' (n := Z)]; simp]
  rw [e, List.length_append, show ([((0 : Int), (0 : Int)), (0, 0)] : List (Int × Int)).length = 2 from rfl, Nat.add_sub_cancel, List.take_left']
  · unfold hN
    rw [hr]
    show _ = (1, ((i + 1 : Nat) : Int) * ap) :: (((0, 0) :: (List.replicate gap (1, (i : Int) * ap) ++ hL gap ap i 2)) ++ List.replicate Z (0, 0))
    simp
  · rfl
/-- A stretch in which none is missing with three behind it. -/
theorem upto_quiet (y : Nat) (L : List (Int × Int)) : ∀ k, (∀ j, j < k → (L.getD j (0, 0)).1 = 0 → j < 3) → (LwS.upto y L k).ls = [] ∧ (LwS.upto y L k).nums = L
  | 0, _ => ⟨rfl, rfl⟩
  | k + 1, h => by
    obtain ⟨h1, h2⟩ := upto_quiet y L k (fun j hj => h j (by omega))
    have hf := (LwS.upto_few y L k).1
    have hk := h k (by omega)
    obtain ⟨p, q, hp⟩ : ∃ p q, L.getD k (0, 0) = (p, q) := ⟨_, _, rfl⟩
    by_cases g1 : p = 1
    · subst g1
      rw [LwS.up_got hp]
      exact ⟨h1, h2⟩
    · rw [LwS.up_skip hp g1 (fun e => by rw [hp] at hk; have := hk e.1; omega)]
      exact ⟨h1, h2⟩
/-- One hole at the age of three. -/
theorem upto_one (y : Nat) (L : List (Int × Int)) (T q : Int) (h0 : L.getD 0 (0, 0) = (1, T)) (h1 : L.getD 1 (0, 0) = (1, T)) (h2 : L.getD 2 (0, 0) = (1, T)) (h3 : L.getD 3 (0, 0) = (0, q)) :
    ∀ k, (∀ j, 3 < j → j < k + 4 → (L.getD j (0, 0)).1 ≠ 0) → (LwS.upto y L (k + 4)).ls = [(ageN y 3, T)] ∧ (LwS.upto y L (k + 4)).nums = L.set 3 (2, q)
  | 0, _ => by
    have e1 := LwS.up_got (y := y) h0
    have e2 := LwS.up_got (y := y) h1
    have e3 := LwS.up_got (y := y) h2
    rw [e1] at e2
    rw [e2] at e3
    have e4 := LwS.up_lost (y := y) h3 (by rw [e3]; exact Nat.le_refl 3)
    rw [e3] at e4
    rw [e4]
    exact ⟨rfl, rfl⟩
  | k + 1, h => by
    obtain ⟨g1, g2⟩ := upto_one y L T q h0 h1 h2 h3 k (fun j hj hj2 => h j hj (by omega))
    have hk := h (k + 4) (by omega) (by omega)
    obtain ⟨p, r, hp⟩ : ∃ p r, L.getD (k + 4) (0, 0) = (p, r) := ⟨_, _, rfl⟩
    rw [hp] at hk
    rw [show k + 1 + 4 = k + 4 + 1 by omega]
    by_cases g3 : p = 1
    · subst g3
      rw [LwS.up_got hp]
      exact ⟨g1, g2⟩
    · rw [LwS.up_skip hp g3 (fun e => hk e.1)]
      exact ⟨g1, g2⟩
end Go.Proofs.YtbiglbclifbmhaaGreatDoor

namespace Go.Proofs.YtbiglbclifbmhaaGreatDoor
set_option linter.unusedVariables false
set_option linter.unusedSimpArgs false

theorem lose_quiet (x : FeS) (sp : Nat) (h : ∀ j, j < sp → (x.s.nums.getD j (0, 0)).1 = 0 → j < 3) : x.lose sp = x := by
  obtain ⟨h1, h2⟩ := upto_quiet x.s.newest x.s.nums sp h
  unfold FeS.lose
  rw [h1, h2]
  rfl
theorem lose_one (x : FeS) (k : Nat) (T q : Int) (h0 : x.s.nums.getD 0 (0, 0) = (1, T)) (h1 : x.s.nums.getD 1 (0, 0) = (1, T)) (h2 : x.s.nums.getD 2 (0, 0) = (1, T)) (h3 : x.s.nums.getD 3 (0, 0) = (0, q)) (h : ∀ j, 3 < j → j < k + 4 → (x.s.nums.getD j (0, 0)).1 ≠ 0) :
    x.lose (k + 4) = FeS.take ⟨{ x.s with nums := x.s.nums.set 3 (2, q) }, x.l⟩ (ageN x.s.newest 3, T) := by
  obtain ⟨g1, g2⟩ := upto_one x.s.newest x.s.nums T q h0 h1 h2 h3 k h
  unfold FeS.lose
  rw [g1, g2]
  rfl
theorem nF_age (first m j : Nat) (h : j ≤ m) (h2 : m ≤ 1000) : ageN (nF first m) j = nF first (m - j) := by
  unfold ageN nF
  omega
theorem nF_len (first a b : Nat) (h : a ≤ b) (h2 : b ≤ 1000) : lenU (nF first a) (nF first b) = b - a := by
  unfold lenU nF
  omega
theorem hoG_first (first gap : Nat) (ap : Int) : HoG first gap ap 0 0 (FeS.put ⟨FdS.fresh 1000, []⟩ 0 (nF first 0) 1).2 := by
  rw [FeS.put_first ⟨FdS.fresh 1000, []⟩ 0 (nF first 0) 1 (List.replicate 249 (0, 0)) rfl rfl]
  have hq : FeS.lose ⟨FdS.put1 (FdS.fresh 1000) 0 (nF first 0) (List.replicate 249 (0, 0)) 1, []⟩ 1 = ⟨FdS.put1 (FdS.fresh 1000) 0 (nF first 0) (List.replicate 249 (0, 0)) 1, []⟩ := lose_quiet _ 1 (fun j hj _ => by omega)
  show HoG first gap ap 0 0 (FeS.lose ⟨FdS.put1 (FdS.fresh 1000) 0 (nF first 0) (List.replicate 249 (0, 0)) 1, []⟩ 1)
  rw [hq]
  refine ⟨?_, rfl, ?_, ⟨249, ?_⟩, (Int.zero_mul ap).symm, rfl, rfl, rfl, fun h => absurd h (by unfold hC; decide)⟩
  · show (1 : Int) = ((0 * (gap + 1) + 0 + 1 : Nat) : Int)
    rw [Nat.zero_mul]
    rfl
  · show nF first 0 = nF first (0 * (gap + 1) + 0)
    rw [Nat.zero_mul]
  · show ((1 : Int), (0 : Int)) :: List.replicate 249 (0, 0) = (1, ((0 : Nat) : Int) * ap) :: List.replicate 249 (0, 0)
    rw [show ((0 : Nat) : Int) * ap = 0 from Int.zero_mul ap]
/-- What stays where nothing is lost. -/
theorem hoG_quiet {first gap : Nat} {ap : Int} {i r i2 r2 : Nat} {x : FeS} (h : HoG first gap ap i r x) (N : Int) (y k sq : Nat) (hN2 : N = (i2 : Int) * ap) (hy : y = nF first (i2 * (gap + 1) + r2)) (hsq : sq = i2 * (gap + 1) + r2 + 1) (hc : hC i2 r2 = hC i r) (Z : Nat)
    (hnum : (List.replicate k ((0 : Int), (0 : Int)) ++ x.s.nums.take (250 - k)).set 0 (1, N) = hN gap ap i2 r2 (if r2 < 2 then 0 else 2) Z)
    (hno : ∀ j, j < sq → ((hN gap ap i2 r2 (if r2 < 2 then 0 else 2) Z).getD j (0, 0)).1 = 0 → j < 3) :
    HoG first gap ap i2 r2 (FeS.lose ⟨FdS.putN (FdS.leadN { x.s with now := N } y k sq) N 0 1, x.l⟩ sq) := by
  have hq : FeS.lose ⟨FdS.putN (FdS.leadN { x.s with now := N } y k sq) N 0 1, x.l⟩ sq = ⟨FdS.putN (FdS.leadN { x.s with now := N } y k sq) N 0 1, x.l⟩ := lose_quiet _ sq (fun j hj hz => by
    have e : (FdS.putN (FdS.leadN { x.s with now := N } y k sq) N 0 1).nums = hN gap ap i2 r2 (if r2 < 2 then 0 else 2) Z := hnum
    rw [e] at hz
    exact hno j hj hz)
  rw [hq]
  refine ⟨by rw [← hsq]; rfl, h.fst, by rw [← hy]; rfl, ⟨Z, hnum⟩, hN2, h.round, ?_, ?_, fun g => ?_⟩
  · rw [hc]; exact h.lost
  · rw [hc]; exact h.evn
  · rw [hc] at g ⊢
    exact h.eat g
theorem hoG_more {first gap : Nat} {ap : Int} {i r : Nat} {x : FeS} (h : HoG first gap ap i r x) (hlen : x.s.nums.length = 250) (hi : i ≤ 8) (hg : 4 ≤ gap) (hm : i * (gap + 1) + r + 1 ≤ 240) :
    HoG first gap ap i (r + 1) (x.put ((i : Int) * ap) (nF first (i * (gap + 1) + r + 1)) 1).2 := by
  obtain ⟨P, hP⟩ : ∃ P, i * (gap + 1) = P := ⟨_, rfl⟩
  obtain ⟨N, hN0⟩ : ∃ N, (i : Int) * ap = N := ⟨_, rfl⟩
  have hi1 : i ≠ 0 → gap + 1 ≤ P := fun h0 => by
    rw [← hP]
    exact Nat.le_mul_of_pos_left _ (by omega)
  obtain ⟨Z, hZ⟩ := h.nums
  have hl := hN_len gap ap i r (if r < 2 then 0 else 2) Z
  rw [← hZ, hlen, hP] at hl
  rw [hP] at hm
  obtain ⟨Z', rfl⟩ : ∃ Z', Z = Z' + 1 := ⟨Z - 1, by omega⟩
  have hnew : x.s.newest = nF first (P + r) := by rw [h.new, hP]
  have hd : diffI x.s.newest (nF first (P + r + 1)) = -((1 : Nat) : Int) := by
    rw [hnew, nF_diff first _ _ (by omega) (by omega)]
    omega
  have hy : stepI x.s.newest ((1 : Nat) : Int) = ((nF first (P + r + 1) : Nat) : Int) := by
    rw [hnew]
    unfold stepI nF
    omega
  rw [hP, hN0, x.put_lead N (nF first (P + r + 1)) 1 (P + r + 1) 1 1 (nF first (P + r + 1)) (P + r + 2) (by rw [h.span, hP]) (by omega) hd (by omega) rfl hy (by omega)]
  have hnum : (List.replicate 1 ((0 : Int), (0 : Int)) ++ x.s.nums.take (250 - 1)).set 0 (1, N) = hN gap ap i (r + 1) (if r < 2 then 0 else 2) Z' := by
    have h9 := hN_more gap ap i r (if r < 2 then 0 else 2) Z'
    rw [← hZ, hlen, hN0] at h9
    exact h9
  by_cases hlo : r = 1 ∧ i ≠ 0
  · obtain ⟨rfl, h0⟩ := hlo
    obtain ⟨i, rfl⟩ : ∃ i', i = i' + 1 := ⟨i - 1, by omega⟩
    have hP2 := hi1 h0
    have e0 : (if 1 < 2 then (0 : Int) else 2) = 0 := rfl
    rw [e0] at hnum
    have hc1 : hC (i + 1) 1 = i := by unfold hC; rfl
    have hc2 : hC (i + 1) 2 = i + 1 := by unfold hC; rfl
    have hg0 := fun k hk => hN_got gap ap (i + 1) 2 0 Z' k hk
    rw [hN0] at hg0
    have hg3 : (hN gap ap (i + 1) 2 0 Z').getD 3 (0, 0) = (0, 0) := hN_hole gap ap i 2 0 Z'
    have hst := hN_set gap ap i 2 Z'
    show HoG first gap ap (i + 1) 2 (FeS.lose ⟨FdS.putN (FdS.leadN { x.s with now := N } (nF first (P + 1 + 1)) 1 ((P + 1 + 2 : Nat) : Int)) N 0 1, x.l⟩ (P + 1 + 2))
    have hT := lose_one ⟨FdS.putN (FdS.leadN { x.s with now := N } (nF first (P + 1 + 1)) 1 ((P + 1 + 2 : Nat) : Int)) N 0 1, x.l⟩ (P - 1) N 0 (by rw [← hg0 0 (by omega)]; exact congrArg (fun q => q.getD 0 (0, 0)) hnum) (by rw [← hg0 1 (by omega)]; exact congrArg (fun q => q.getD 1 (0, 0)) hnum) (by rw [← hg0 2 (by omega)]; exact congrArg (fun q => q.getD 2 (0, 0)) hnum) (by rw [← hg3]; exact congrArg (fun q => q.getD 3 (0, 0)) hnum) (fun j hj hj2 => by
      rw [show (FdS.putN (FdS.leadN { x.s with now := N } (nF first (P + 1 + 1)) 1 ((P + 1 + 2 : Nat) : Int)) N 0 1).nums = hN gap ap (i + 1) 2 0 Z' from hnum]
      exact hN_old gap ap (i + 1) 2 0 Z' j hj (by rw [hP]; omega))
    rw [show P - 1 + 4 = P + 1 + 2 by omega] at hT
    rw [hT]
    have hag : ageN (nF first (P + 1 + 1)) 3 = nF first (P - 1) := by rw [nF_age first _ 3 (by omega) (by omega)]; congr 1
    show HoG first gap ap (i + 1) 2 (FeS.take ⟨{ x.s with now := N, newest := nF first (P + 1 + 1), nums := (FdS.putN (FdS.leadN { x.s with now := N } (nF first (P + 1 + 1)) 1 ((P + 1 + 2 : Nat) : Int)) N 0 1).nums.set 3 (2, 0), span := ((P + 1 + 2 : Nat) : Int), bytes := x.s.bytes + 1 }, x.l⟩ (ageN (nF first (P + 1 + 1)) 3, N))
    rw [show (FdS.putN (FdS.leadN { x.s with now := N } (nF first (P + 1 + 1)) 1 ((P + 1 + 2 : Nat) : Int)) N 0 1).nums = hN gap ap (i + 1) 2 0 Z' from hnum, hst, hag]
    obtain ⟨X, hX⟩ : ∃ X : FeS, (⟨{ x.s with now := N, newest := nF first (P + 1 + 1), nums := hN gap ap (i + 1) 2 2 Z', span := ((P + 1 + 2 : Nat) : Int), bytes := x.s.bytes + 1 }, x.l⟩ : FeS) = X := ⟨_, rfl⟩
    have q1 : X.s.span = ((P + 1 + 2 : Nat) : Int) := by rw [← hX]
    have q2 : X.s.first = nF first 0 := by rw [← hX]; exact h.fst
    have q3 : X.s.newest = nF first (P + 1 + 1) := by rw [← hX]
    have q4 : X.s.nums = hN gap ap (i + 1) 2 2 Z' := by rw [← hX]
    have q5 : X.s.now = N := by rw [← hX]
    have q6 : X.s.round = 1000 := by rw [← hX]; exact h.round
    have q7 : X.s.lost = (i : Int) := by rw [← hX, ← hc1]; exact h.lost
    have q8 : X.l.length = (evs ap i).1 := by rw [← hX, ← hc1]; exact h.evn
    have q9 : 1 ≤ i → X.s.eat = (evs ap i).2 ∧ X.l.getLast? = some gap ∧ ∃ e ≤ 300, X.s.en = nF first e := fun g => by
      have h9 := h.eat (by rw [hc1]; exact g)
      rw [hc1] at h9
      rw [← hX]
      exact h9
    rw [hX]
    have hNi : N = ((i : Int) + 1) * ap := by rw [← hN0]; simp
    obtain ⟨r1, r2, r3, r4, r5, r6, r7, r8, r9, _⟩ := X.take_rest (nF first (P - 1), N)
    have hbase : (X.take (nF first (P - 1), N)).l.length = (evs ap (i + 1)).1 → ((X.take (nF first (P - 1), N)).s.eat = (evs ap (i + 1)).2 ∧ (X.take (nF first (P - 1), N)).l.getLast? = some gap ∧ ∃ e ≤ 300, (X.take (nF first (P - 1), N)).s.en = nF first e) → HoG first gap ap (i + 1) 2 (X.take (nF first (P - 1), N)) := fun b1 b2 =>
      ⟨by rw [r5, q1, hP], by rw [r2, q2], by rw [r3, q3, hP], ⟨Z', by rw [r4, q4]; rfl⟩, by rw [r1, q5, hN0], by rw [r8, q6], by rw [r9, q7, hc2]; simp, by rw [hc2]; exact b1, fun _ => by rw [hc2]; exact b2⟩
    by_cases hl0 : X.l = []
    · have hi0 : i = 0 := by
        rcases Nat.eq_zero_or_pos i with g | g
        · exact g
        · have := evs_pos ap i g
          rw [← q8, hl0] at this
          simp at this
      subst hi0
      have hgP : P - 1 = gap := by rw [← hP]; simp
      have hev : evs ap (0 + 1) = (1, ((0 : Nat) : Int) * ap + ap) := by
        show (if (evs ap 0).2 + 1000 < (((0 : Nat) : Int) + 1) * ap ∨ 0 = 0 then ((evs ap 0).1 + 1, (((0 : Nat) : Int) + 1) * ap) else evs ap 0) = _
        rw [if_pos (.inr rfl)]
        simp [evs]
      refine hbase ?_ ?_
      · rw [X.take_none _ hl0, hl0, hev]; rfl
      · rw [X.take_none _ hl0, hl0, hev, q2, hgP, nF_len first 0 gap (by omega) (by omega)]
        refine ⟨?_, ?_, gap, by omega, rfl⟩
        · show N = _
          rw [hNi]
          simp
        · show some (max (gap - 0) 1) = some gap
          rw [show max (gap - 0) 1 = gap by omega]
    · have hip : 1 ≤ i := by
        rcases Nat.eq_zero_or_pos i with g | g
        · exfalso
          subst g
          exact hl0 (List.length_eq_zero_iff.1 q8)
        · exact g
      obtain ⟨a1, a2, e, he, a3⟩ := q9 hip
      have hle := evs_le ap i
      by_cases hlt : X.s.eat + X.s.round < N
      · have hev : evs ap (i + 1) = ((evs ap i).1 + 1, N) := by
          show (if (evs ap i).2 + 1000 < ((i : Int) + 1) * ap ∨ i = 0 then ((evs ap i).1 + 1, ((i : Int) + 1) * ap) else evs ap i) = _
          rw [← hNi, if_pos (.inl (by rw [← a1, ← q6]; exact hlt))]
        have htk : (lenU X.s.en (nF first (P - 1)) :: X.l).take 8 = lenU X.s.en (nF first (P - 1)) :: X.l := List.take_of_length_le (by rw [List.length_cons, q8]; omega)
        refine hbase ?_ ?_
        · rw [X.take_late _ hl0 hlt, hev]
          show ((lenU X.s.en (nF first (P - 1)) :: X.l).take 8).length = _
          rw [htk, List.length_cons, q8]
        · rw [X.take_late _ hl0 hlt, hev]
          refine ⟨rfl, ?_, P - 1, by omega, rfl⟩
          show ((lenU X.s.en (nF first (P - 1)) :: X.l).take 8).getLast? = _
          rw [htk]
          obtain ⟨c, l, hcl⟩ : ∃ c l, X.l = c :: l := by
            rcases hq : X.l with _ | ⟨c, l⟩
            · exact absurd hq hl0
            · exact ⟨c, l, rfl⟩
          rw [hcl, List.getLast?_cons_cons, ← hcl]
          exact a2
      · have hev : evs ap (i + 1) = evs ap i := by
          show (if (evs ap i).2 + 1000 < ((i : Int) + 1) * ap ∨ i = 0 then ((evs ap i).1 + 1, ((i : Int) + 1) * ap) else evs ap i) = _
          rw [← hNi, if_neg (fun g => g.elim (fun g => hlt (by rw [a1, q6]; exact g)) (by omega))]
        refine hbase ?_ ?_
        · rw [X.take_soon _ hl0 hlt, hev]
          exact q8
        · rw [X.take_soon _ hl0 hlt, hev]
          exact ⟨a1, a2, e, he, a3⟩
  · have hst : hN gap ap i (r + 1) (if r < 2 then 0 else 2) Z' = hN gap ap i (r + 1) (if r + 1 < 2 then 0 else 2) Z' := by
      by_cases h1 : r = 1
      · have : i = 0 := by omega
        subst this h1
        rfl
      · by_cases h2 : r < 2
        · rw [if_pos h2, if_pos (by omega)]
        · rw [if_neg h2, if_neg (by omega)]
    rw [hst] at hnum
    have hcc : hC i (r + 1) = hC i r := by
      unfold hC
      by_cases h1 : r = 1
      · have : i = 0 := by omega
        subst this h1
        rfl
      · by_cases h2 : r < 2
        · rw [if_pos h2, if_pos (by omega)]
        · rw [if_neg h2, if_neg (by omega)]
    refine hoG_quiet h N (nF first (P + r + 1)) 1 (P + r + 2) hN0.symm (by rw [hP]; rfl) (by rw [hP]; omega) hcc Z' hnum (fun j hj hz => ?_)
    by_cases j1 : j ≤ r + 1
    · rw [hN_got gap ap i (r + 1) _ Z' j j1] at hz
      cases hz
    · by_cases j2 : j = r + 2
      · subst j2
        rcases i with _ | i
        · rw [Nat.zero_mul] at hP
          omega
        · rw [hN_hole gap ap i (r + 1) _ Z'] at hz
          by_cases h2 : r + 1 < 2
          · omega
          · rw [if_neg h2] at hz
            cases hz
      · exact absurd hz (hN_old gap ap i (r + 1) _ Z' j (by omega) (by rw [hP]; omega))
theorem hoG_next {first gap : Nat} {ap : Int} {i r : Nat} {x : FeS} (h : HoG first gap ap i r x) (hlen : x.s.nums.length = 250) (hr : r + 1 = gap) (hi : i ≤ 8) (hg : 4 ≤ gap) (hm : (i + 1) * (gap + 1) ≤ 240) :
    HoG first gap ap (i + 1) 0 (x.put (((i + 1 : Nat) : Int) * ap) (nF first ((i + 1) * (gap + 1))) 1).2 := by
  obtain ⟨P, hP⟩ : ∃ P, i * (gap + 1) = P := ⟨_, rfl⟩
  have hP1 : (i + 1) * (gap + 1) = P + gap + 1 := by rw [Nat.succ_mul, hP]; omega
  obtain ⟨N, hN0⟩ : ∃ N, ((i + 1 : Nat) : Int) * ap = N := ⟨_, rfl⟩
  obtain ⟨Z, hZ⟩ := h.nums
  rw [if_neg (by omega)] at hZ
  have hl := hN_len gap ap i r 2 Z
  rw [← hZ, hlen, hP] at hl
  rw [hP1] at hm
  obtain ⟨Z', rfl⟩ : ∃ Z', Z = Z' + 2 := ⟨Z - 2, by omega⟩
  have hnew : x.s.newest = nF first (P + r) := by rw [h.new, hP]
  have hd : diffI x.s.newest (nF first (P + gap + 1)) = -((2 : Nat) : Int) := by
    rw [hnew, nF_diff first _ _ (by omega) (by omega)]
    omega
  have hy : stepI x.s.newest ((2 : Nat) : Int) = ((nF first (P + gap + 1) : Nat) : Int) := by
    rw [hnew]
    unfold stepI nF
    omega
  rw [hP1, hN0, x.put_lead N (nF first (P + gap + 1)) 1 (P + gap) 2 2 (nF first (P + gap + 1)) (P + gap + 2) (by rw [h.span, hP]; omega) (by omega) hd (by omega) rfl hy (by omega)]
  have hnum : (List.replicate 2 ((0 : Int), (0 : Int)) ++ x.s.nums.take (250 - 2)).set 0 (1, N) = hN gap ap (i + 1) 0 (if 0 < 2 then 0 else 2) Z' := by
    have h9 := hN_next gap ap i r Z' hr
    rw [← hZ, hlen, hN0] at h9
    exact h9
  refine hoG_quiet h N (nF first (P + gap + 1)) 2 (P + gap + 2) hN0.symm (by rw [hP1]) (by rw [hP1]) (by unfold hC; rw [if_pos (by omega), if_neg (by omega)]; rfl) Z' hnum (fun j hj hz => ?_)
  by_cases j1 : j < 3
  · exact j1
  · exact absurd hz (hN_old gap ap (i + 1) 0 _ Z' j (by omega) (by rw [hP1]; omega))
end Go.Proofs.YtbiglbclifbmhaaGreatDoor

namespace Go.Proofs.YtbiglbclifbmhaaGreatDoor
open Go.ChangeShapes Go.WideShapes Go.ChangeAt Go.RowKit
set_option linter.unusedVariables false
set_option linter.unusedSimpArgs false

def HoSt (first gap : Nat) (ap : Int) (i k : Nat) (x : FeS) : Prop :=
  (k = 0 ∧ i = 0 ∧ x = ⟨FdS.fresh 1000, []⟩) ∨ (k = 0 ∧ 1 ≤ i ∧ HoG first gap ap (i - 1) (gap - 1) x) ∨ (1 ≤ k ∧ HoG first gap ap i (k - 1) x)
def FeHo (first gap : Nat) (ap : Int) (i k C B : Nat) (w W : World) : Prop := ∃ (x : FeS) (b : Nat), HoSt first gap ap i k x ∧ x.Inv (i * gap + k) ∧ FeedAt x C b W ∧ B ≤ C ∧ B ≤ b ∧ Below B w W
theorem timeI (ap : Int) (h1 : 0 ≤ ap) (h2 : ap ≤ 5000) (i : Nat) (hi : i ≤ 10) : 0 ≤ (i : Int) * ap ∧ (i : Int) * ap ≤ 50000 := by
  refine ⟨Int.mul_nonneg (by omega) h1, ?_⟩
  have h3 : (i : Int) * ap ≤ (i : Int) * 5000 := Int.mul_le_mul_of_nonneg_left h2 (by omega)
  omega
theorem evs_bd (ap : Int) (h1 : 0 ≤ ap) (h2 : ap ≤ 5000) : ∀ c, c ≤ 10 → -1152921504606846976 ≤ (evs ap c).2 ∧ (evs ap c).2 ≤ 50000
  | 0, _ => ⟨Int.le_refl _, (by decide : (-1152921504606846976 : Int) ≤ 50000)⟩
  | c + 1, hc => by
    have h := evs_bd ap h1 h2 c (by omega)
    have ht := timeI ap h1 h2 (c + 1) hc
    unfold evs
    split
    · have e : (((c + 1 : Nat) : Int)) * ap = ((c : Int) + 1) * ap := by simp
      rw [e] at ht
      exact ⟨by simp only; omega, by simp only; omega⟩
    · exact h
theorem feHo_put {first gap : Nat} {ap : Int} {i k C B : Nat} {w W : World} (h : FeHo first gap ap i k C B w W) (hB : B ≤ w.heap.size) (h1 : 0 ≤ ap) (h2 : ap ≤ 5000) (hi : i ≤ 8) (hg : 4 ≤ gap) (hg2 : gap ≤ 23) (hm : i * (gap + 1) + k + 1 ≤ 240) (T : Int) (hT : (i : Int) * ap = T) :
    Calls Tryz.prog 7 #[.pointer (some ⟨C, 0, none⟩), .int .i64 T, .int .u64 (nF first (i * (gap + 1) + k)), .int .i64 1] W fun e w' => (∃ r, e = .returned (.bool r)) ∧ FeHo first gap ap i (k + 1) C B w w' := by
  obtain ⟨x, b, hs, ix, fx, hC, hb, hbl⟩ := h
  have htb := timeI ap h1 h2 i (by omega)
  rw [hT] at htb
  have hK : i * gap + k ≤ 240 := by
    have e : i * (gap + 1) = i * gap + i := Nat.mul_succ i gap
    omega
  have hN : max x.s.now (min T 4611686018427387904) = T := by
    have hnow : x.s.now ≤ T := by
      rcases hs with ⟨_, _, rfl⟩ | ⟨_, hi1, g⟩ | ⟨_, g⟩
      · show (-9223372036854775808 : Int) ≤ T
        omega
      · rw [g.now, ← hT]
        exact Int.mul_le_mul_of_nonneg_right (by omega) h1
      · rw [g.now, hT]; exact Int.le_refl _
    omega
  refine (feedPut_any x ix (by omega) T T hN ⟨by omega, by omega⟩ (nF first (i * (gap + 1) + k)) (nF_lt _ _) 1 1 (by decide) C b W fx).mono ?_
  rintro e w' ⟨rfl, b', q1, q2, q3⟩
  refine ⟨⟨_, rfl⟩, (x.put T (nF first (i * (gap + 1) + k)) 1).2, b', .inr (.inr ⟨by omega, ?_⟩), ix.put T _ 1 (nF_lt _ _) ⟨by omega, by omega⟩ (by decide), q1, hC, by have := hbl.size; omega, hbl.trans (q2.below (by have := hbl.size; have := fx.lt; omega) (by intro x hx; simp at hx; omega))⟩
  rw [Nat.add_sub_cancel]
  rcases hs with ⟨rfl, rfl, rfl⟩ | ⟨rfl, hi1, g⟩ | ⟨hk, g⟩
  · rw [← hT, show ((0 : Nat) : Int) * ap = 0 from Int.zero_mul ap, Nat.zero_mul]
    exact hoG_first first gap ap
  · obtain ⟨i, rfl⟩ : ∃ i', i = i' + 1 := ⟨i - 1, by omega⟩
    have h9 := hoG_next g ix.len (by omega) (by omega) hg (by rw [Nat.add_sub_cancel]; omega)
    rw [← hT, Nat.add_zero]
    rw [Nat.add_sub_cancel] at h9
    exact h9
  · have h9 := hoG_more g ix.len hi hg (by omega)
    rw [← hT, show i * (gap + 1) + k = i * (gap + 1) + (k - 1) + 1 by omega]
    rw [Nat.sub_add_cancel hk] at h9
    exact h9
theorem feHo_turn {first gap : Nat} {ap : Int} {i C B : Nat} {w W : World} (h : FeHo first gap ap i gap C B w W) (hg : 4 ≤ gap) : FeHo first gap ap (i + 1) 0 C B w W := by
  obtain ⟨x, b, hs, ix, fx, hC, hb, hbl⟩ := h
  refine ⟨x, b, .inr (.inl ⟨rfl, by omega, ?_⟩), by rw [Nat.succ_mul, Nat.add_zero]; exact ix, fx, hC, hb, hbl⟩
  rw [Nat.add_sub_cancel]
  rcases hs with ⟨h1, _⟩ | ⟨h1, _⟩ | ⟨_, g⟩
  · omega
  · omega
  · exact g
theorem feHo_end {first gap : Nat} {ap : Int} {i C B : Nat} {w W : World} (h : FeHo first gap ap i 5 C B w W) (hi : 1 ≤ i) (hi2 : i ≤ 8) (E : Nat) (hE : (evs ap i).1 = E) :
    1 ≤ E ∧ E ≤ 8 ∧ (∀ V, Kept [] W V → Calls Tryz.prog 10 #[.pointer (some ⟨C, 0, none⟩)] V fun e w' => e = .returned (.int .i64 (i : Int)) ∧ V = w') ∧
      (Calls Tryz.prog 9 #[.pointer (some ⟨C, 0, none⟩)] W fun e w' => ∃ O g c, e = .returned (.tuple #[.int .u64 (O : Nat), .slice (some ⟨g, 0, none⟩) E c]) ∧ E ≤ c ∧ c ≤ 9223372036854775807 ∧ w'.cell? ⟨g, E - 1, none⟩ = some (.int .u64 gap) ∧ Kept [] W w') ∧ Below B w W := by
  obtain ⟨x, b, hs, ix, fx, hBC, hb, hbl⟩ := h
  rcases hs with ⟨h1, _⟩ | ⟨h1, _⟩ | ⟨_, g⟩
  · omega
  · omega
  have hc : hC i (5 - 1) = i := by unfold hC; rfl
  have hev := g.evn
  have hlo := g.lost
  obtain ⟨_, hla, _⟩ := g.eat (by rw [hc]; exact hi)
  rw [hc, hE] at hev
  rw [hc] at hlo
  have h1 := evs_pos ap i hi
  have h2 := evs_le ap i
  rw [hE] at h1 h2
  refine ⟨h1, by omega, fun V hV => ?_, ?_, hbl⟩
  · have h9 := feedLost_any x C b V (fx.kept hV (by simp) (by simp))
    rw [hlo] at h9
    exact h9
  · refine (feedIntervals_any x ix.ok.en ix.new ix.ok.ll C b W fx).mono ?_
    rintro e w' ⟨v, rfl, q2, q3⟩
    rcases q2 with ⟨e0, _⟩ | ⟨_, g2, c, rfl, q4, _⟩
    · rw [e0] at hev
      simp at hev
      omega
    · refine ⟨x.opn, g2, c, by rw [hev], by have := q4.cap1; omega, q4.cap2, ?_, q3⟩
      obtain ⟨T, hb2, _⟩ := q4.blk
      rw [hb2.cell, List.getElem?_toArray, List.getElem?_append_left (by rw [List.length_map, hev]; omega), List.getElem?_map]
      rw [List.getLast?_eq_getElem?, hev] at hla
      rw [hla]
      rfl
set_option maxHeartbeats 8000000 in
set_option maxRecDepth 100000 in
theorem feedHoles_walk (first : Nat) (hfi : first < 18446744073709551616) (gz : Int) (g1 : -9223372036854775808 ≤ gz) (g2 : gz ≤ 9223372036854775807) (nz : Int) (n1 : -9223372036854775808 ≤ nz) (n2 : nz ≤ 9223372036854775807) (az : Int) (a1 : -9223372036854775808 ≤ az) (a2 : az ≤ 9223372036854775807) (w : World) (hT : TabW w) :
    Calls Tryz.prog 3 #[.int .u64 first, .int .i64 gz, .int .i64 nz, .int .i64 az] w fun e w' => e = .returned (.bool true) ∧ Below w.heap.size w w' := by
  have HBG : Hid (Calls Tryz.prog 5 #[] w fun e w' => e = .returned (.bool true) ∧ Below w.heap.size w w') := Lib.hid (begun8_any w hT)
  clear hT
  obtain ⟨u0, e0, e01, e02, G0, e03, e04⟩ := mod_at gz 20 (by decide)
  obtain ⟨v0, f0, f01, f02, H0, f03, f04⟩ := mod_at nz 8 (by decide)
  obtain ⟨gap, hgap⟩ : ∃ n : Nat, 4 + (G0 : Int) = (n : Int) := ⟨4 + G0, by omega⟩
  obtain ⟨hol, hhol⟩ : ∃ n : Nat, 1 + (H0 : Int) = (n : Int) := ⟨1 + H0, by omega⟩
  have hg1 : 4 ≤ gap := by omega
  have hg2 : gap ≤ 23 := by omega
  have hh1 : 1 ≤ hol := by omega
  have hh2 : hol ≤ 8 := by omega
  obtain ⟨T0, hT0⟩ : ∃ T0, min az 5000 = T0 := ⟨_, rfl⟩
  obtain ⟨ap, hap⟩ : ∃ ap, max 0 T0 = ap := ⟨_, rfl⟩
  obtain ⟨t1, t2, _, t4, _⟩ := mni _ _ T0 hT0
  obtain ⟨t5, t6, t7, _, t8⟩ := mxi _ _ ap hap
  have p1 : 0 ≤ ap := by omega
  have p2 : ap ≤ 5000 := by omega
  have HST : Hid (∀ (j : Nat), j ≤ 1000 → ∀ W, Calls Tryz.prog 8 #[.int .u64 first, .int .i64 j] W fun e w' => e = .returned (.int .u64 (nF first j : Nat)) ∧ W = w') := Lib.hid (fun j hj W => by
    have h9 := refStep_any first j hfi (by omega) (by omega) W
    rw [nF_step] at h9
    exact h9)
  obtain ⟨B, hB⟩ : ∃ B, w.heap.size = B := ⟨_, rfl⟩
  have HBe := Lib.hid hB
  have HP : Hid (0 ≤ ap ∧ ap ≤ 5000) := Lib.hid ⟨p1, p2⟩
  have HPL : Hid (∀ i : Nat, i ≤ 8 → i * (gap + 1) ≤ 192) := Lib.hid (fun i hi => Nat.le_trans (Nat.mul_le_mul hi (show gap + 1 ≤ 24 by omega)) (by decide))
  go_enter Tryz.func3, Tryz.ntmps3
  go_upto_region 4 with (go_at_call 5; (with_reducible refine HBG.out.mono ?_); rintro e w0 ⟨rfl, hb0⟩)
  go_upto_region 8 with (go_at_call 6; (with_reducible refine (feedNew_any 1000 (by decide) (by decide) _).mono ?_); rintro e w1 ⟨C, rfl, h1, h2, h3⟩)
  have HF0 : Hid (FeHo first gap ap 0 0 C B w w1) := Lib.hid (by
    have l1 := h1.blk.lt
    have s0 := hb0.size
    exact ⟨⟨FdS.fresh 1000, []⟩, C, .inl ⟨rfl, rfl, rfl⟩, by rw [Nat.zero_mul]; exact FeS.Inv.fresh, ⟨_, h1, .inl ⟨rfl, rfl, rfl⟩⟩, by omega, by omega, by rw [← hB]; exact bel_trans hb0 h3⟩)
  clear hb0 h1 h2 h3 hB e0 e03 f0 f03 t1 t2 t4 t5 t6 t7 t8 hT0 hap hgap hhol
  go_wp2
  go_loopw [12, 13, 14, 15, 16] (fun a n ev la i wr => ∃ (k : Nat) (T : Int) (P E : Nat) (Lt : Int), k ≤ hol ∧ i = .int .i64 (k : Int) ∧ a = .int .i64 T ∧ n = .int .i64 (P : Int) ∧ ev = .int .i64 (E : Int) ∧ la = .int .i64 Lt ∧ Hid ((k : Int) * ap = T ∧ k * (gap + 1) = P ∧ evs ap k = (E, Lt)) ∧ Hid (FeHo first gap ap k 0 C B w wr)) (fun _ _ _ _ i _ => hol - (intOf i).toNat)
  case atStart => exact ⟨0, 0, 0, 0, -1152921504606846976, by omega, rfl, rfl, rfl, rfl, rfl, Lib.hid ⟨Int.zero_mul ap, Nat.zero_mul _, rfl⟩, HF0⟩
  case round =>
    obtain ⟨k, T, P, E, Lt, hk, rfl, rfl, rfl, rfl, rfl, heq, hfe⟩ := hrel
    by_cases hkh : k < hol
    · have d0 : decide ((k : Int) < (hol : Int)) = true := decide_eq_true (by omega)
      have hTb : 0 ≤ T ∧ T ≤ 50000 := by rw [← heq.out.1]; exact timeI ap p1 p2 k (by omega)
      obtain ⟨hTb1, hTb2⟩ := hTb
      have hPb : P ≤ 192 := by rw [← heq.out.2.1]; exact HPL.out k (by omega)
      have hEb : E ≤ 10 := by have h9 := evs_le ap k; rw [heq.out.2.2] at h9; simp only at h9; omega
      obtain ⟨hLb1, hLb2⟩ : -1152921504606846976 ≤ Lt ∧ Lt ≤ 50000 := by have h9 := evs_bd ap p1 p2 k (by omega); rw [heq.out.2.2] at h9; exact h9
      have hPn : P + gap + 1 ≤ 192 := by
        have h9 := HPL.out (k + 1) (by omega)
        rw [Nat.succ_mul, heq.out.2.1] at h9
        omega
      clear HF0
      go_wp2
      go_loopw [13, 17] (fun n q wq => ∃ j : Nat, j ≤ gap ∧ q = .int .i64 (j : Int) ∧ n = .int .i64 ((P + j : Nat) : Int) ∧ Hid (FeHo first gap ap k j C B w wq)) (fun _ q _ => gap - (intOf q).toNat)
      case atStart => exact ⟨0, by omega, rfl, rfl, hfe⟩
      case round =>
        obtain ⟨j, hj, rfl, rfl, hfj⟩ := hrel
        by_cases hjg : j < gap
        · have d1 : decide ((j : Int) < (gap : Int)) = true := decide_eq_true (by omega)
          have HS1 := Lib.hid (HST.out (P + j) (by omega))
          have HPT : Hid (Calls Tryz.prog 7 #[.pointer (some ⟨C, 0, none⟩), .int .i64 T, .int .u64 (nF first (P + j)), .int .i64 1] wr fun e w' => (∃ r, e = .returned (.bool r)) ∧ FeHo first gap ap k (j + 1) C B w w') := Lib.hid (by
            have h9 := feHo_put hfj.out (by have := HBe.out; omega) p1 p2 (by omega) hg1 hg2 (by rw [heq.out.2.1]; omega) T heq.out.1
            rw [heq.out.2.1] at h9
            exact h9)
          obtain ⟨M, hM⟩ : ∃ M, P + j = M := ⟨_, rfl⟩
          have HM := Lib.hid hM
          have hMb : M ≤ 300 := by omega
          rw [hM] at HS1 HPT ⊢
          clear hM
          generalize nF first M = N at *
          go_upto_region 18 with (first
            | (go_at_call 8; (with_reducible refine (HS1.out _).mono ?_); rintro e w5 ⟨rfl, rfl⟩)
            | (go_at_call 7; (with_reducible refine HPT.out.mono ?_); rintro e w6 ⟨⟨rr, rfl⟩, hf6⟩))
          have HF6 := Lib.hid hf6
          clear hf6 HPT HS1 hfj hfe
          go_wp2
          refine ⟨⟨j + 1, by omega, by go_num, by rw [show P + (j + 1) = M + 1 by have := HM.out; omega]; go_num, HF6⟩, ?_⟩
          simp [intOf]; omega
        · have d1 : decide ((j : Int) < (gap : Int)) = false := decide_eq_false (by omega)
          obtain rfl : j = gap := by omega
          obtain ⟨P1, hP1⟩ : ∃ P1, P + j + 1 = P1 := ⟨_, rfl⟩
          obtain ⟨M, hM⟩ : ∃ M, P + j = M := ⟨_, rfl⟩
          obtain ⟨T1, hT1⟩ : ∃ T1, T + ap = T1 := ⟨_, rfl⟩
          have hTk : ((k + 1 : Nat) : Int) * ap = T1 := by rw [← hT1, ← heq.out.1]; simp [Int.add_mul]
          have hPk : (k + 1) * (j + 1) = P1 := by rw [Nat.succ_mul, heq.out.2.1]; omega
          have HFT := Lib.hid (feHo_turn hfj.out hg1)
          have hMb : M ≤ 300 := by omega
          have hT1b : 0 ≤ T1 ∧ T1 ≤ 60000 := by omega
          obtain ⟨hT1c, hT1d⟩ := hT1b
          have q1 : IntKind.i64.wrap (T + ap) = T1 := by rw [IntKind.wrap_i64]; omega
          have q2 : wrap64 (T + ap) = T1 := by unfold wrap64; omega
          obtain ⟨L1, hL1⟩ : ∃ L1, Lt + 1000 = L1 := ⟨_, rfl⟩
          have q3 : IntKind.i64.wrap (Lt + 1000) = L1 := by rw [IntKind.wrap_i64]; omega
          have q4 : wrap64 (Lt + 1000) = L1 := by unfold wrap64; omega
          have HEV : Hid (evs ap (k + 1) = if L1 < T1 ∨ k = 0 then (E + 1, T1) else (E, Lt)) := Lib.hid (by
            show (if (evs ap k).2 + 1000 < ((k : Int) + 1) * ap ∨ k = 0 then ((evs ap k).1 + 1, ((k : Int) + 1) * ap) else evs ap k) = _
            rw [show ((k : Int) + 1) * ap = T1 by rw [← hTk]; simp, heq.out.2.2]
            simp only
            rw [hL1])
          have HTP : Hid (((k + 1 : Nat) : Int) * ap = T1 ∧ (k + 1) * (j + 1) = P1) := Lib.hid ⟨hTk, hPk⟩
          have HPM : Hid (M + 1 = P1) := Lib.hid (by omega)
          rw [hM]
          clear hTk hPk hfj hfe heq hP1 hM hjg hj
          by_cases hlt : L1 < T1
          · have d2 : decide (L1 < T1) = true := decide_eq_true hlt
            go_wp2
            refine ⟨⟨k + 1, T1, P1, E + 1, T1, by omega, by go_num, by go_num, by rw [← HPM.out]; go_num, by go_num, rfl, Lib.hid ⟨HTP.out.1, HTP.out.2, by rw [HEV.out, if_pos (.inl hlt)]⟩, HFT⟩, ?_⟩
            simp [intOf]; omega
          · have d2 : decide (L1 < T1) = false := decide_eq_false hlt
            by_cases hk0 : k = 0
            · subst hk0
              go_wp2
              refine ⟨⟨1, T1, P1, E + 1, T1, by omega, by go_num, by go_num, by rw [← HPM.out]; go_num, by go_num, rfl, Lib.hid ⟨HTP.out.1, HTP.out.2, by rw [HEV.out, if_pos (.inr rfl)]⟩, HFT⟩, ?_⟩
              simp [intOf]; omega
            · have d3 : ((k : Int) == 0) = false := by rw [beq_eq_false_iff_ne]; omega
              go_wp2
              refine ⟨⟨k + 1, T1, P1, E, Lt, by omega, by go_num, by go_num, by rw [← HPM.out]; go_num, rfl, rfl, Lib.hid ⟨HTP.out.1, HTP.out.2, by rw [HEV.out, if_neg (by omega)]⟩, HFT⟩, ?_⟩
              simp [intOf]; omega
    · have d0 : decide ((k : Int) < (hol : Int)) = false := decide_eq_false (by omega)
      obtain rfl : k = hol := by omega
      have hTb : 0 ≤ T ∧ T ≤ 50000 := by rw [← heq.out.1]; exact timeI ap p1 p2 k (by omega)
      obtain ⟨hTb1, hTb2⟩ := hTb
      have hPb : P ≤ 192 := by rw [← heq.out.2.1]; exact HPL.out k (by omega)
      clear HF0 hk hkh
      go_wp2
      go_loopw [13, 18] (fun n q wq => ∃ j : Nat, j ≤ 5 ∧ q = .int .i64 (j : Int) ∧ n = .int .i64 ((P + j : Nat) : Int) ∧ Hid (FeHo first gap ap k j C B w wq)) (fun _ q _ => 5 - (intOf q).toNat)
      case atStart => exact ⟨0, by omega, rfl, rfl, hfe⟩
      case round =>
        obtain ⟨j, hj, rfl, rfl, hfj⟩ := hrel
        by_cases hjg : j < 5
        · have d1 : decide ((j : Int) < 5) = true := decide_eq_true (by omega)
          have HS1 := Lib.hid (HST.out (P + j) (by omega))
          have HPT : Hid (Calls Tryz.prog 7 #[.pointer (some ⟨C, 0, none⟩), .int .i64 T, .int .u64 (nF first (P + j)), .int .i64 1] wr fun e w' => (∃ r, e = .returned (.bool r)) ∧ FeHo first gap ap k (j + 1) C B w w') := Lib.hid (by
            have h9 := feHo_put hfj.out (by have := HBe.out; omega) p1 p2 (by omega) hg1 hg2 (by rw [heq.out.2.1]; omega) T heq.out.1
            rw [heq.out.2.1] at h9
            exact h9)
          obtain ⟨M, hM⟩ : ∃ M, P + j = M := ⟨_, rfl⟩
          have HM := Lib.hid hM
          have hMb : M ≤ 300 := by omega
          rw [hM] at HS1 HPT ⊢
          clear hM
          generalize nF first M = N at *
          go_upto_region 28 with (first
            | (go_at_call 8; (with_reducible refine (HS1.out _).mono ?_); rintro e w5 ⟨rfl, rfl⟩)
            | (go_at_call 7; (with_reducible refine HPT.out.mono ?_); rintro e w6 ⟨⟨rr, rfl⟩, hf6⟩))
          have HF6 := Lib.hid hf6
          clear hf6 HPT HS1 hfj hfe
          go_wp2
          refine ⟨⟨j + 1, by omega, by go_num, by rw [show P + (j + 1) = M + 1 by have := HM.out; omega]; go_num, HF6⟩, ?_⟩
          simp [intOf]; omega
        · have d1 : decide ((j : Int) < 5) = false := decide_eq_false (by omega)
          obtain rfl : j = 5 := by omega
          obtain ⟨z1, z2, z3, z4, z5⟩ := feHo_end hfj.out hh1 hh2 E (by rw [heq.out.2.2])
          obtain ⟨D, rfl⟩ : ∃ D, E = D + 1 := ⟨E - 1, by omega⟩
          rw [Nat.add_sub_cancel] at z4
          have HLO := Lib.hid z3
          have HIV := Lib.hid z4
          have HBL := Lib.hid z5
          have m1 : min ((D : Int) + 1) 8 = (D : Int) + 1 := by omega
          have m2 : (if (8 : Int) < (D : Int) + 1 then (8 : Int) else (D : Int) + 1) = (D : Int) + 1 := if_neg (by omega)
          have m3 : (if 8 < D + 1 then (8 : Int) else (D : Int) + 1) = (D : Int) + 1 := if_neg (by omega)
          have m4 : ¬ (8 < D + 1) := by omega
          have m5 : ¬ (8 < D) := by omega
          clear z3 z4 z5 hfj hfe hj hjg heq
          go_upto_region 30 with (go_at_call 9; (with_reducible refine HIV.out.mono ?_); rintro e w5 ⟨O, g, c, rfl, y1, y2, y3, y4⟩)
          have HL2 := Lib.hid (HLO.out w5 y4)
          have hk5 := Lib.hid y4
          clear y4
          go_wp2_with (go_at_call 10; (with_reducible refine HL2.out.mono ?_); rintro e w6 ⟨rfl, rfl⟩)
          go_ret
          exact ⟨rfl, by rw [HBe.out]; exact HBL.out.trans (hk5.out.below (by have := HBL.out.size; have := HBe.out; omega) (fun q hq => by cases hq))⟩
end Go.Proofs.YtbiglbclifbmhaaGreatDoor
