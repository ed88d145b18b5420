/-
  Package vec: which cells may be.
-/
import Derived.Test.YtbiglbclifbmhaaGreatDoorVecB
import Derived.Laws.NewBlocks
import Derived.RegionTactic
import Derived.Deep.Cut
import Derived.Deep.DeepCutAuto
namespace Go.Proofs.YtbiglbclifbmhaaGreatDoor
open Go.ChangeShapes Go.WideShapes Go.ChangeAt Go.RowKit
set_option linter.unusedVariables false
set_option linter.unusedSimpArgs false

theorem mayF_at (n : Int) (l : List Cel) (k : Nat) (hk : k < l.length) : mayF n (l.drop k) = (celB (l.getD k (0, 0)) && (decide (n + (l.getD k (0, 0)).2 ≤ 1000) && mayF (n + (l.getD k (0, 0)).2) (l.drop (k + 1)))) := by
  rw [List.drop_eq_getElem_cons hk, List.getD_eq_getElem?_getD, List.getElem?_eq_getElem hk]; rfl
theorem celB_run {c : Cel} (h : celB c = true) : stB c.1 = true ∧ 1 ≤ c.2 ∧ c.2 ≤ 64 := by
  unfold celB at h
  simp only [Bool.and_eq_true, decide_eq_true_eq] at h
  exact ⟨h.1, h.2.1, h.2.2⟩

set_option maxHeartbeats 4000000 in
set_option maxRecDepth 100000 in
theorem vecMay_any (v : Value) (l : List Cel) (w : World) (hv : C2At w v l) :
    Calls Tryz.prog 55 #[v] w fun e w' => e = .returned (.bool (mayF 0 l)) ∧ Below w.heap.size w w' := by
  obtain ⟨p, cap, rfl, _, _, hc⟩ := hv.at_
  have HC := Lib.hid hc
  have hlen := hv.len
  have HSM := Lib.hid hv.small
  obtain ⟨N, hN⟩ : ∃ N, l.length = N := ⟨_, rfl⟩
  have HN := Lib.hid hN
  rw [hN] at HC hlen ⊢
  clear hc hv hN
  go_enter Tryz.func55, Tryz.ntmps55
  go_wp2
  go_loopw [3, 5, 8] (fun a _ i wr => ∃ (k : Nat) (n : Int), i = .int .i64 (k : Int) ∧ a = .int .i64 (1000 - n) ∧ 0 ≤ n ∧ n ≤ 1000 ∧ k ≤ N ∧ Hid (mayF 0 l = mayF n (l.drop k)) ∧ Hid (Below w.heap.size w wr)) (fun _ _ i _ => N - (intOf i).toNat)
  case atStart => exact ⟨0, 0, rfl, rfl, by omega, by omega, by omega, Lib.hid rfl, Lib.hid (Below.refl _ _)⟩
  case round =>
    obtain ⟨k, n, rfl, rfl, hn0, hn1, hk, hmf, hbr⟩ := hrel
    by_cases hkn : k < N
    · obtain ⟨b, o, rfl, hlt, c0, c1⟩ := HC.out k hkn
      rw [← hbr.out.cell (p := ⟨b, o + k * 2, none⟩) hlt] at c0
      rw [← hbr.out.cell (p := ⟨b, o + k * 2 + 1, none⟩) hlt] at c1
      have HAT := Lib.hid (mayF_at n l k (by rw [HN.out]; exact hkn))
      have hsm := HSM.out k
      generalize l.getD k (0, 0) = c at *
      obtain ⟨s, r⟩ := c
      simp only at c0 c1 hsm HAT
      have HCL := Lib.hid (fun W => isCell_any (s, r) W)
      simp only at HCL
      clear hlt
      go_upto_region 5 with (refine store_c2 rfl _ _ rfl _ (0, 0) (s, r) rfl rfl (heap_alloc_new wr _) ?_; intro W2 hc2 hg2)
      have hb2 : Below wr.heap.size wr W2 := (bel_alloc wr _).grown hg2 (by simp) (fun j hj => by cases hj; exact Nat.le_refl _)
      obtain ⟨C, hC⟩ : ∃ C, C = wr.heap.size := ⟨_, rfl⟩
      rw [← hC] at hc2 ⊢
      obtain ⟨x0, x1⟩ := hc2.cells
      simp only at x0 x1
      have HC2 := Lib.hid hc2
      have HB2 : Hid (Below w.heap.size w W2) := Lib.hid (bel_trans hbr.out hb2)
      clear hb2 hg2 hc2 hC c0 c1
      cases hcb : celB (s, r) with
      | false =>
        rw [hcb] at HCL
        have HF : Hid (mayF 0 l = false) := Lib.hid (by rw [hmf.out, HAT.out, hcb]; rfl)
        clear hcb
        go_wp2_with (go_at_call 86; (with_reducible refine (HCL.out _).mono ?_); rintro e W3 ⟨rfl, hb3⟩)
        go_ret
        exact ⟨by rw [HF.out]; rfl, bel_trans HB2.out hb3⟩
      | true =>
        obtain ⟨_, hr1, hr2⟩ := celB_run hcb
        simp only at hr1 hr2
        rw [hcb] at HCL
        by_cases hle : n + r ≤ 1000
        · have hd : decide ((1000 : Int) - n < r) = false := decide_eq_false (by omega)
          have HF : Hid (mayF 0 l = mayF (n + r) (l.drop (k + 1))) := Lib.hid (by rw [hmf.out, HAT.out, hcb, decide_eq_true hle]; rfl)
          clear hcb
          go_upto_region 7 with (go_at_call 86; (with_reducible refine (HCL.out _).mono ?_); rintro e W3 ⟨rfl, hb3⟩; have hx3 := (HC2.out.below hb3).cells; have y1 := hx3.2; simp only at y1; clear hx3)
          have HB3 : Hid (Below w.heap.size w W3) := Lib.hid (bel_trans HB2.out hb3)
          clear hb3 x0 x1
          go_wp2
          refine ⟨⟨k + 1, n + r, by go_num, by go_num, by omega, by omega, by omega, HF, HB3⟩, ?_⟩
          simp [intOf]; omega
        · have hd : decide ((1000 : Int) - n < r) = true := decide_eq_true (by omega)
          have HF : Hid (mayF 0 l = false) := Lib.hid (by rw [hmf.out, HAT.out, hcb, decide_eq_false hle]; rfl)
          clear hcb
          go_wp2_with (go_at_call 86; (with_reducible refine (HCL.out _).mono ?_); rintro e W3 ⟨rfl, hb3⟩; have hx3 := (HC2.out.below hb3).cells; have y1 := hx3.2; simp only at y1; clear hx3)
          go_ret
          exact ⟨by rw [HF.out]; rfl, bel_trans HB2.out hb3⟩
    · obtain rfl : k = N := by omega
      have hdr : l.drop k = [] := List.drop_eq_nil_of_le (by rw [HN.out]; exact Nat.le_refl _)
      have HF : Hid (mayF 0 l = true) := Lib.hid (by rw [hmf.out, hdr]; rfl)
      clear hdr
      go_wp2
      go_ret
      exact ⟨by rw [HF.out]; rfl, hbr.out⟩

end Go.Proofs.YtbiglbclifbmhaaGreatDoor
