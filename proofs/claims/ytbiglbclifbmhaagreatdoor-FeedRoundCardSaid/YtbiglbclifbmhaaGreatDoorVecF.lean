/-
  Package vec: cells of states, walked.
-/
import Derived.Test.YtbiglbclifbmhaaGreatDoorVecE
namespace Go.Proofs.YtbiglbclifbmhaaGreatDoor
open Go.ChangeShapes Go.WideShapes Go.ChangeAt Go.RowKit
set_option linter.unusedVariables false
set_option linter.unusedSimpArgs false

theorem take_snocI (l : List Int) (i : Nat) (h : i < l.length) : l.take (i + 1) = l.take i ++ [l.getD i 0] := by
  rw [List.take_add_one, List.getD_eq_getElem?_getD, List.getElem?_eq_getElem h]; rfl
theorem CelOwn.len {B : Nat} {v : Value} {l : List Cel} {W0 w : World} (h : CelOwn B v l W0 w) : ∃ p c, v = .slice p l.length c := by
  rcases h.1.2 with ⟨rfl, h0⟩ | ⟨g, cap, cur, rfl, _⟩
  · exact ⟨none, 0, by rw [h0]⟩
  · exact ⟨_, cap, rfl⟩
theorem accOk (l : List Int) : ∀ (acc : List Cel), runsOk acc → runsOk (l.foldl ofStep acc) ∧ (l.foldl ofStep acc).length ≤ acc.length + l.length := by
  induction l with
  | nil => intro acc h; exact ⟨h, by simp⟩
  | cons s l ih =>
    intro acc h
    obtain ⟨h1, h2⟩ := ofStep_ok acc s h
    obtain ⟨h3, h4⟩ := ih (ofStep acc s) h1
    exact ⟨h3, by rw [List.foldl_cons, List.length_cons]; omega⟩

set_option maxHeartbeats 8000000 in
set_option maxRecDepth 100000 in
theorem vecOf_any (v : Value) (l : List Int) (w : World) (hv : I64At w v l) :
    Calls Tryz.prog 52 #[v] w fun e w' => ∃ v', e = .returned v' ∧ CelOwn w.heap.size v' (ofR l) w w' := by
  obtain ⟨p, cap, rfl, _, _, hc⟩ := hv.at_
  have HC := Lib.hid hc
  have hlen := hv.len
  obtain ⟨N, hN⟩ : ∃ N, l.length = N := ⟨_, rfl⟩
  have HN := Lib.hid hN
  rw [hN] at HC hlen ⊢
  have HNIL := Lib.hid (CelOwn.nil w)
  clear hc hv hN
  go_enter Tryz.func52, Tryz.ntmps52
  go_wp2
  go_loopw [3, 5, 6, 9] (fun a _ _ i wr => ∃ k : Nat, i = .int .i64 (k : Int) ∧ k ≤ N ∧ Hid ((l.take k).all stB = true) ∧ Hid (CelOwn w.heap.size a ((l.take k).foldl ofStep []) w wr)) (fun _ _ _ i _ => N - (intOf i).toNat)
  case atStart => exact ⟨0, rfl, by omega, Lib.hid rfl, HNIL⟩
  case round =>
    obtain ⟨k, rfl, hk, hall, hown⟩ := hrel
    by_cases hkn : k < N
    · obtain ⟨b, o, rfl, hlt, c0⟩ := HC.out k hkn
      rw [← hown.out.2.1.cell (p := ⟨b, o + k, none⟩) hlt] at c0
      have hts := take_snocI l k (by rw [HN.out]; exact hkn)
      have HIN : Hid (stB (l.getD k 0) = false → l.all stB = false) := Lib.hid (fun hh => by
        rw [List.all_eq_false]
        refine ⟨l.getD k 0, ?_, by rw [hh]; decide⟩
        rw [List.getD_eq_getElem?_getD, List.getElem?_eq_getElem (by rw [HN.out]; exact hkn)]
        exact List.getElem_mem _)
      have HAL : Hid (stB (l.getD k 0) = true → (l.take (k + 1)).all stB = true) := Lib.hid (fun hh => by rw [hts, List.all_append, hall.out, List.all_cons, hh]; rfl)
      have HST : Hid ((l.take (k + 1)).foldl ofStep [] = ofStep ((l.take k).foldl ofStep []) (l.getD k 0)) := Lib.hid (by rw [hts, List.foldl_append]; rfl)
      obtain ⟨hok, hal⟩ := accOk (l.take k) [] (fun c hc => by simp at hc)
      have hal2 : ((l.take k).foldl ofStep []).length ≤ 1073741824 := by
        rw [List.length_take] at hal; simp at hal; omega
      generalize l.getD k 0 = s at *
      generalize (l.take k).foldl ofStep [] = acc at *
      have HIS := Lib.hid (fun W => isState_any s W)
      clear hts hlt hal hall
      cases hs : stB s with
      | false =>
        have HR : Hid (ofR l = []) := Lib.hid (by unfold ofR; rw [HIN.out hs]; rfl)
        rw [hs] at HIS
        clear hs
        have HB : Hid (Below w.heap.size w wr) := Lib.hid hown.out.2.1
        go_wp2_with (go_at_call 70; (with_reducible refine (HIS.out _).mono ?_); rintro e w1 ⟨rfl, rfl⟩)
        go_ret
        exact ⟨_, rfl, by rw [HR.out]; exact ⟨World.ownsRow_nil _ _ _ _, HB.out, HB.out.size⟩⟩
      | true =>
        have HAL2 := Lib.hid (HAL.out hs)
        rw [hs] at HIS
        clear hs HIN HAL
        rcases List.eq_nil_or_concat acc with rfl | ⟨m, ⟨t, r⟩, rfl⟩
        · obtain ⟨q, c, rfl⟩ := hown.out.len
          have hown2 : Hid (CelOwn w.heap.size (.slice q 0 c) [] w wr) := hown
          clear hown
          have hgl : ([] : List Cel).length = 0 := rfl
          rw [hgl]
          clear hgl
          go_upto_region 11 with (first
            | (go_at_call 70; (with_reducible refine (HIS.out _).mono ?_); rintro e w1 ⟨rfl, rfl⟩)
            | (at_builtin; refine wp_cel rfl _ _ rfl w.heap.size (.slice q 0 c) [] rfl w wr _ (s, 1) rfl hown2.out _ rfl rfl (by simp) ?_; intro v2 w9 ho9))
          have HO9 : Hid (CelOwn w.heap.size v2 ((l.take (k + 1)).foldl ofStep []) w w9) := Lib.hid (by rw [HST.out, ofStep_nil]; exact ho9)
          clear ho9 c0 hown2
          go_wp2
          refine ⟨⟨k + 1, by go_num, by omega, HAL2, HO9⟩, ?_⟩
          simp [intOf]; omega
        · rw [List.concat_eq_append] at *
          obtain ⟨g, c, rfl, hgc, hgm, hgB, hglt, hcell, hfr⟩ := hown.out.shape (by simp)
          have hx := hcell m.length (by simp)
          rw [show (m ++ [(t, r)]).getD m.length (0, 0) = (t, r) by simp] at hx
          have hrb := hok (t, r) (by simp)
          obtain ⟨x0, x1⟩ := hx
          simp only at x0 x1 hrb
          have f1 := hfr (m.length * 2 + 1)
          have hgl : (m ++ [(t, r)]).length = m.length + 1 := by simp
          have HOWN : Hid (CelOwn w.heap.size (.slice (some ⟨g, 0, none⟩) (m.length + 1) c) (m ++ [(t, r)]) w wr) := Lib.hid (by have := hown.out; rwa [hgl] at this)
          have HLN : Hid ((m ++ [(t, r)]).length ≤ 1073741824) := Lib.hid hal2
          rw [hgl] at hgc hal2 ⊢
          have HSR : Hid (CelOwn w.heap.size (.slice (some ⟨g, 0, none⟩) (m.length + 1) c) (m ++ [(t, r + 1)]) w (wr.setCell ⟨g, m.length * 2 + 1, none⟩ (.int .i64 (r + 1)))) := Lib.hid (HOWN.out.setRun (r + 1))
          clear hown hcell hfr hgl hok
          obtain ⟨M, hM⟩ : ∃ M, m.length = M := ⟨_, rfl⟩
          rw [hM] at x0 x1 f1 hgc hal2 HOWN HSR ⊢
          clear hM
          by_cases hts : t = s
          · subst hts
            by_cases hr64 : r < 64
            · have d1 := decide_eq_true hr64
              have HUP : Hid (ofStep (m ++ [(t, r)]) t = m ++ [(t, r + 1)]) := Lib.hid (ofStep_up m t r hr64)
              go_upto_region 11 with (go_at_call 70; (with_reducible refine (HIS.out _).mono ?_); rintro e w1 ⟨rfl, rfl⟩)
              clear x0 x1 f1 c0
              have HO9 : Hid (CelOwn w.heap.size (.slice (some ⟨g, 0, none⟩) (M + 1) c) ((l.take (k + 1)).foldl ofStep []) w (wr.setCell ⟨g, M * 2 + 1, none⟩ (.int .i64 (r + 1)))) := Lib.hid (by rw [HST.out, HUP.out]; exact HSR.out)
              generalize wr.setCell ⟨g, M * 2 + 1, none⟩ (.int .i64 (r + 1)) = w9 at *
              go_wp2
              refine ⟨⟨k + 1, by go_num, by omega, HAL2, HO9⟩, ?_⟩
              simp [intOf]; omega
            · have d1 := decide_eq_false hr64
              have HNE : Hid ((64 : Int) ≤ r) := Lib.hid (by omega)
              go_upto_region 11 with (first
                | (go_at_call 70; (with_reducible refine (HIS.out _).mono ?_); rintro e w1 ⟨rfl, rfl⟩)
                | (at_builtin; refine wp_cel rfl _ _ rfl w.heap.size (.slice (some ⟨g, 0, none⟩) (M + 1) c) (m ++ [(t, r)]) rfl w wr _ (t, 1) rfl HOWN.out _ rfl rfl HLN.out ?_; intro v2 w9 ho9))
              have HO9 : Hid (CelOwn w.heap.size v2 ((l.take (k + 1)).foldl ofStep []) w w9) := Lib.hid (by rw [HST.out, ofStep_new m t r t (fun q => by have := HNE.out; omega)]; exact ho9)
              clear ho9 c0 x0 x1 f1 HOWN
              go_wp2
              refine ⟨⟨k + 1, by go_num, by omega, HAL2, HO9⟩, ?_⟩
              simp [intOf]; omega
          · have d1 : (t == s) = false := by rw [beq_eq_false_iff_ne]; exact hts
            have HNE : Hid (¬ (t = s ∧ r < 64)) := Lib.hid (fun q => hts q.1)
            clear hts
            go_upto_region 11 with (first
              | (go_at_call 70; (with_reducible refine (HIS.out _).mono ?_); rintro e w1 ⟨rfl, rfl⟩)
              | (at_builtin; refine wp_cel rfl _ _ rfl w.heap.size (.slice (some ⟨g, 0, none⟩) (M + 1) c) (m ++ [(t, r)]) rfl w wr _ (s, 1) rfl HOWN.out _ rfl rfl HLN.out ?_; intro v2 w9 ho9))
            have HO9 : Hid (CelOwn w.heap.size v2 ((l.take (k + 1)).foldl ofStep []) w w9) := Lib.hid (by rw [HST.out, ofStep_new m t r s HNE.out]; exact ho9)
            clear ho9 c0 x0 x1 f1 HOWN
            go_wp2
            refine ⟨⟨k + 1, by go_num, by omega, HAL2, HO9⟩, ?_⟩
            simp [intOf]; omega
    · obtain rfl : k = N := by omega
      have htk : l.take k = l := List.take_of_length_le (by rw [HN.out]; exact Nat.le_refl _)
      rw [htk] at hown hall
      have HR : Hid (ofR l = l.foldl ofStep []) := Lib.hid (by unfold ofR; rw [hall.out]; rfl)
      clear htk
      go_wp2
      go_ret
      exact ⟨_, rfl, by rw [HR.out]; exact hown.out⟩
theorem beq_ne {t s : Int} (h : (t == s) = false) (e : t = s) : False := by rw [beq_eq_false_iff_ne] at h; exact h e

end Go.Proofs.YtbiglbclifbmhaaGreatDoor
