/-
  Package vec: states spread out.
-/
import Derived.Test.YtbiglbclifbmhaaGreatDoorVecC
import Derived.Test.YtbiglbclifbmhaaGreatDoorIntR
namespace Go.Proofs.YtbiglbclifbmhaaGreatDoor
open Go.ChangeShapes Go.WideShapes Go.ChangeAt Go.RowKit
set_option linter.unusedVariables false
set_option linter.unusedSimpArgs false

def spreadL (l : List Cel) : List Int := l.flatMap fun c => List.replicate c.2.toNat c.1
theorem spreadL_app (l m : List Cel) : spreadL (l ++ m) = spreadL l ++ spreadL m := by simp [spreadL]
theorem spreadL_one (c : Cel) : spreadL [c] = List.replicate c.2.toNat c.1 := by simp [spreadL]
theorem take_snocC (l : List Cel) (i : Nat) (h : i < l.length) : l.take (i + 1) = l.take i ++ [l.getD i (0, 0)] := by
  rw [List.take_add_one, List.getD_eq_getElem?_getD, List.getElem?_eq_getElem h]; rfl
theorem spreadL_take (l : List Cel) (k : Nat) (h : k < l.length) : spreadL (l.take (k + 1)) = spreadL (l.take k) ++ List.replicate (l.getD k (0, 0)).2.toNat (l.getD k (0, 0)).1 := by
  rw [take_snocC l k h, spreadL_app, spreadL_one]
theorem mayF_len : ∀ (l : List Cel) (n : Int), mayF n l = true → n ≤ 1000 → n + ((spreadL l).length : Int) ≤ 1000
  | [], n, _, h => by simp [spreadL]; exact h
  | c :: l, n, h, _ => by
    unfold mayF at h
    simp only [Bool.and_eq_true, decide_eq_true_eq] at h
    have h2 := mayF_len l (n + c.2) h.2.2 h.2.1
    have hr := (celB_run h.1).2
    have e : (spreadL (c :: l)).length = c.2.toNat + (spreadL l).length := by simp [spreadL]
    rw [e]
    omega
theorem mayF_all : ∀ (l : List Cel) (n : Int), mayF n l = true → ∀ i, i < l.length → celB (l.getD i (0, 0)) = true
  | [], _, _, i, hi => by simp at hi
  | c :: l, n, h, i, hi => by
    unfold mayF at h
    simp only [Bool.and_eq_true, decide_eq_true_eq] at h
    cases i with
    | zero => exact h.1
    | succ i => simpa using mayF_all l (n + c.2) h.2.2 i (by simpa using hi)
theorem spreadL_le (l : List Cel) (k : Nat) : (spreadL (l.take k)).length ≤ (spreadL l).length := by
  have e := congrArg (fun z => (spreadL z).length) (List.take_append_drop k l)
  simp only [spreadL_app, List.length_append] at e
  omega
/-- What is spread out of cells; nothing, if they may not be. -/
def spreadR (l : List Cel) : List Int := if mayF 0 l = true then spreadL l else []

set_option maxHeartbeats 8000000 in
set_option maxRecDepth 100000 in
theorem vecSpread_any (v : Value) (l : List Cel) (w : World) (hv : C2At w v l) :
    Calls Tryz.prog 56 #[v] w fun e w' => ∃ v', e = .returned v' ∧ I64Own w.heap.size v' (spreadR l) w w' := by
  have HM := Lib.hid (vecMay_any v l w hv)
  obtain ⟨p, cap, rfl, _, _, hc⟩ := hv.at_
  cases hmf : mayF 0 l with
  | false =>
    rw [hmf] at HM
    have HR : Hid (spreadR l = []) := Lib.hid (by unfold spreadR; rw [hmf]; rfl)
    clear hmf hc hv
    generalize l.length = N at *
    go_enter Tryz.func56, Tryz.ntmps56
    go_wp2_with (go_at_call 55; (with_reducible refine HM.out.mono ?_); rintro e w1 ⟨rfl, hb1⟩)
    go_ret
    exact ⟨_, rfl, by rw [HR.out]; exact (I64Own.nil w).kept hb1⟩
  | true =>
    rw [hmf] at HM
    have HR : Hid (spreadR l = spreadL l) := Lib.hid (by unfold spreadR; rw [hmf]; rfl)
    have HLE : Hid (∀ k, (spreadL (l.take k)).length ≤ 1000) := Lib.hid (fun k => by
      have h1 := spreadL_le l k
      have h2 := mayF_len l 0 hmf (by omega)
      omega)
    have HALL := Lib.hid (mayF_all l 0 hmf)
    have HC := Lib.hid hc
    have hlen := hv.len
    obtain ⟨N, hN⟩ : ∃ N, l.length = N := ⟨_, rfl⟩
    have HN := Lib.hid hN
    rw [hN] at HC HM hlen ⊢
    clear hc hv hN hmf
    go_enter Tryz.func56, Tryz.ntmps56
    go_wp2_with (go_at_call 55; (with_reducible refine HM.out.mono ?_); rintro e w1 ⟨rfl, hb1⟩)
    have HNIL := Lib.hid ((I64Own.nil w).kept hb1)
    clear hb1 HM
    go_loopw [3, 5, 11] (fun a _ i wr => ∃ k : Nat, i = .int .i64 (k : Int) ∧ k ≤ N ∧ Hid (I64Own w.heap.size a (spreadL (l.take k)) w wr)) (fun _ _ i _ => N - (intOf i).toNat)
    case atStart => exact ⟨0, rfl, by omega, HNIL⟩
    case round =>
      obtain ⟨k, rfl, hk, hown⟩ := hrel
      by_cases hkn : k < N
      · obtain ⟨b, o, rfl, hlt, c0, c1⟩ := HC.out k hkn
        rw [← hown.out.2.1.cell (p := ⟨b, o + k * 2, none⟩) hlt] at c0
        rw [← hown.out.2.1.cell (p := ⟨b, o + k * 2 + 1, none⟩) hlt] at c1
        have HTK := Lib.hid (spreadL_take l k (by rw [HN.out]; exact hkn))
        have hcb := celB_run (HALL.out k (by rw [HN.out]; exact hkn))
        have HLK := Lib.hid (HLE.out k)
        generalize l.getD k (0, 0) = c at *
        obtain ⟨s, r⟩ := c
        simp only at c0 c1 hcb HTK
        obtain ⟨_, hr1, hr2⟩ := hcb
        obtain ⟨R, hR⟩ := Int.eq_ofNat_of_zero_le (show 0 ≤ r by omega)
        subst hR
        rw [Int.toNat_natCast] at HTK
        clear hlt
        obtain ⟨wo, rfl⟩ : ∃ wo : World, wo = wr := ⟨_, rfl⟩
        go_wp2_with (refine store_c2 rfl _ _ rfl _ (0, 0) (s, (R : Int)) rfl rfl (heap_alloc_new wo _) ?_; intro W2 hc2 hg2; have hx2 := hc2.cells; have x1 := hx2.2; simp only at x1; clear hx2)
        have hb2 : Below wo.heap.size wo W2 := (bel_alloc wo _).grown hg2 (by simp) (fun j hj => by cases hj; exact Nat.le_refl _)
        have HO2 : Hid (I64Own w.heap.size u3 (spreadL (l.take k)) w W2) := Lib.hid (hown.out.kept hb2)
        obtain ⟨C, hC⟩ : ∃ C, C = wo.heap.size := ⟨_, rfl⟩
        rw [← hC] at hc2 x1 ⊢
        have HC2 := Lib.hid hc2
        clear hb2 hg2 hc2 hC c0 c1 x1 hown
        go_loopw [3, 17] (fun a i wi => ∃ j : Nat, i = .int .i64 (j : Int) ∧ j ≤ R ∧ Hid (I64Own w.heap.size a (spreadL (l.take k) ++ List.replicate j s) w wi) ∧ Hid (C2Blk (s, (R : Int)) C wi)) (fun _ i _ => R - (intOf i).toNat)
        case atStart => exact ⟨0, rfl, by omega, by rw [List.replicate_zero, List.append_nil]; exact HO2, HC2⟩
        case round =>
          obtain ⟨j, rfl, hj, hown, hcc⟩ := hrel
          by_cases hjr : j < R
          · have hx := hcc.out.cells
            have x0 := hx.1
            simp only at x0
            clear hx
            have HCELL : Hid (∀ i, i < ([s] : List Int).length → (wr.alloc (.cells #[.int .i64 s] 3)).cell? ⟨wr.heap.size, 0 + i, none⟩ = some (.int .i64 (([s] : List Int).getD i 0))) := Lib.hid (fun i hi => by
              have : i = 0 := by simp at hi; omega
              subst this
              rw [cell_of_row _ _ _ _ _ _ (heap_alloc_new wr _)]; rfl)
            have HLJ : Hid ((spreadL (l.take k) ++ List.replicate j s).length ≤ 1073741824) := Lib.hid (by have := HLK.out; rw [List.length_append, List.length_replicate]; omega)
            go_upto_region 10 with (at_builtin; refine wp_i64s rfl _ _ rfl w.heap.size u3 (spreadL (l.take k) ++ List.replicate j s) [s] rfl w _ (hown.out.kept (bel_alloc wr _)) wr.heap.size 0 1 rfl HCELL.out HLJ.out (by simp) ?_; intro v2 w9 ho9 hg9)
            have HO9 : Hid (I64Own w.heap.size v2 (spreadL (l.take k) ++ List.replicate (j + 1) s) w w9) := Lib.hid (by rw [List.replicate_succ', ← List.append_assoc]; exact ho9)
            have HC9 : Hid (C2Blk (s, (R : Int)) C w9) := Lib.hid ((hcc.out.below (bel_alloc wr _)).other hg9 (hown.out.ne_c2 hcc.out))
            clear ho9 hg9 x0 HCELL hown hcc
            go_wp2
            refine ⟨⟨j + 1, by go_num, by omega, HO9, HC9⟩, ?_⟩
            simp [intOf]; omega
          · obtain rfl : j = R := by omega
            have HO9 : Hid (I64Own w.heap.size u3 (spreadL (l.take (k + 1))) w wr) := Lib.hid (by rw [HTK.out]; exact hown.out)
            clear hown hcc
            go_wp2
            refine ⟨⟨k + 1, by go_num, by omega, HO9⟩, ?_⟩
            simp [intOf]; omega
      · obtain rfl : k = N := by omega
        have htk : l.take k = l := List.take_of_length_le (by rw [HN.out]; exact Nat.le_refl _)
        rw [htk] at hown
        clear htk
        go_wp2
        go_ret
        exact ⟨_, rfl, by rw [HR.out]; exact hown.out⟩

end Go.Proofs.YtbiglbclifbmhaaGreatDoor
