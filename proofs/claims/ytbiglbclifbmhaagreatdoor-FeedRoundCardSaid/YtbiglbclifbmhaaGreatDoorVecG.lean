/-
  Cells of states: what they spread out to, which they are.
-/
import Derived.Test.YtbiglbclifbmhaaGreatDoorVecD
import Derived.Test.YtbiglbclifbmhaaGreatDoorVecE
namespace Go.Proofs.YtbiglbclifbmhaaGreatDoor
open Go
set_option linter.unusedVariables false

theorem spread_step (acc : List Cel) (s : Int) (h : runsOk acc) : spreadL (ofStep acc s) = spreadL acc ++ [s] := by
  rcases List.eq_nil_or_concat acc with rfl | ⟨m, ⟨t, r⟩, rfl⟩
  · simp [ofStep, spreadL]
  · rw [List.concat_eq_append] at *
    by_cases hh : t = s ∧ r < 64
    · obtain ⟨rfl, hr⟩ := hh
      rw [ofStep_up m t r hr, spreadL_app, spreadL_app, spreadL_one, spreadL_one]
      have h1 := (h (t, r) (by simp)).1
      simp only at h1
      have e : (r + 1).toNat = r.toNat + 1 := by omega
      simp only [e, List.replicate_succ']
      simp
    · rw [ofStep_new m t r s hh, spreadL_app, spreadL_one]
      simp
theorem spread_of (l : List Int) : ∀ acc, runsOk acc → spreadL (l.foldl ofStep acc) = spreadL acc ++ l := by
  induction l with
  | nil => intro acc _; simp
  | cons s l ih =>
    intro acc h
    rw [List.foldl_cons, ih _ (ofStep_ok acc s h).1, spread_step acc s h]
    simp
theorem mayF_of : ∀ (l : List Cel) (n : Int), (∀ c ∈ l, celB c = true) → n + ((spreadL l).length : Int) ≤ 1000 → mayF n l = true
  | [], _, _, _ => rfl
  | c :: l, n, h, hn => by
    have hc := h c (by simp)
    have hr := (celB_run hc).2
    have e : (spreadL (c :: l)).length = c.2.toNat + (spreadL l).length := by simp [spreadL]
    rw [e] at hn
    unfold mayF
    rw [hc, decide_eq_true (show n + c.2 ≤ 1000 by omega), mayF_of l (n + c.2) (fun d hd => h d (by simp [hd])) (by omega)]
    rfl
/-- No two beside each other that could be one. -/
def sepOk (l : List Cel) : Prop := ∀ i, i + 1 < l.length → ¬ ((l.getD i (0, 0)).1 = (l.getD (i + 1) (0, 0)).1 ∧ (l.getD i (0, 0)).2 < 64)
theorem getD_app (l m : List Cel) (i : Nat) : (l ++ m).getD i (0, 0) = if i < l.length then l.getD i (0, 0) else m.getD (i - l.length) (0, 0) := by
  rw [List.getD_eq_getElem?_getD, List.getD_eq_getElem?_getD, List.getD_eq_getElem?_getD, List.getElem?_append]
  split <;> rfl
theorem sep_step (acc : List Cel) (s : Int) (h : sepOk acc) : sepOk (ofStep acc s) := by
  rcases List.eq_nil_or_concat acc with rfl | ⟨m, ⟨t, r⟩, rfl⟩
  · intro i hi; simp [ofStep] at hi
  · rw [List.concat_eq_append] at *
    by_cases hh : t = s ∧ r < 64
    · obtain ⟨rfl, hr⟩ := hh
      rw [ofStep_up m t r hr]
      intro i hi
      have h1 := h i (by simpa using hi)
      simp only [List.length_append, List.length_cons, List.length_nil] at hi
      rw [getD_app, getD_app, if_pos (by omega)] at h1 ⊢
      split at h1
      · rename_i h2; rw [if_pos h2]; exact h1
      · rename_i h2
        rw [if_neg h2]
        rw [show i + 1 - m.length = 0 by omega] at h1 ⊢
        exact h1
    · rw [ofStep_new m t r s hh]
      intro i hi
      simp only [List.length_append, List.length_cons, List.length_nil] at hi
      have g1 : ((m ++ [(t, r)]) ++ [(s, 1)]).getD i (0, 0) = (m ++ [(t, r)]).getD i (0, 0) := by
        rw [getD_app (m ++ [(t, r)]) [(s, 1)], if_pos (by simp; omega)]
      rw [g1]
      by_cases h2 : i + 1 < (m ++ [(t, r)]).length
      · rw [getD_app (m ++ [(t, r)]) [(s, 1)], if_pos h2]
        exact h i h2
      · have h3 : i = m.length := by simp at h2; omega
        subst h3
        rw [getD_app (m ++ [(t, r)]) [(s, 1)], if_neg h2]
        have e1 : (m ++ [(t, r)]).getD m.length (0, 0) = (t, r) := by simp
        have e2 : ([(s, 1)] : List Cel).getD (m.length + 1 - (m ++ [(t, r)]).length) (0, 0) = (s, 1) := by simp
        rw [e1, e2]
        exact hh
theorem sep_of (l : List Int) : ∀ acc, sepOk acc → sepOk (l.foldl ofStep acc) := by
  induction l with
  | nil => intro acc h; exact h
  | cons s l ih => intro acc h; exact ih _ (sep_step acc s h)
theorem cel_step (acc : List Cel) (s : Int) (hs : stB s = true) (h : ∀ c ∈ acc, celB c = true) : ∀ c ∈ ofStep acc s, celB c = true := by
  have h1 : celB (s, 1) = true := by unfold celB; simp only; rw [hs]; rfl
  rcases List.eq_nil_or_concat acc with rfl | ⟨m, ⟨t, r⟩, rfl⟩
  · intro c hc; simp [ofStep] at hc; subst hc; exact h1
  · rw [List.concat_eq_append] at *
    by_cases hh : t = s ∧ r < 64
    · obtain ⟨rfl, hr⟩ := hh
      rw [ofStep_up m t r hr]
      intro c hc
      rw [List.mem_append] at hc
      rcases hc with hc | hc
      · exact h c (by rw [List.mem_append]; exact .inl hc)
      · simp at hc
        subst hc
        have h2 := (celB_run (h (t, r) (by simp))).2
        simp only at h2
        unfold celB
        simp only
        rw [hs, decide_eq_true (show 1 ≤ r + 1 by omega), decide_eq_true (show r + 1 ≤ 64 by omega)]
        rfl
    · rw [ofStep_new m t r s hh]
      intro c hc
      rw [List.mem_append] at hc
      rcases hc with hc | hc
      · exact h c hc
      · simp at hc; subst hc; exact h1
theorem cel_of (l : List Int) : ∀ acc, l.all stB = true → (∀ c ∈ acc, celB c = true) → ∀ c ∈ l.foldl ofStep acc, celB c = true := by
  induction l with
  | nil => intro acc _ h; exact h
  | cons s l ih =>
    intro acc ha h
    rw [List.all_cons, Bool.and_eq_true] at ha
    exact ih _ ha.2 (cel_step acc s ha.1 h)
/-- Of states that may be, not too many. -/
theorem of_facts (l : List Int) (ha : l.all stB = true) (hl : l.length ≤ 1000) : mayF 0 (ofR l) = true ∧ spreadR (ofR l) = l ∧ sepOk (ofR l) ∧ runsOk (ofR l) ∧ (ofR l).length ≤ l.length := by
  have he : ofR l = l.foldl ofStep [] := if_pos ha
  rw [he]
  have hr0 : runsOk [] := fun c hc => by simp at hc
  have hsp : spreadL (l.foldl ofStep []) = l := by rw [spread_of l [] hr0]; rfl
  have hm : mayF 0 (l.foldl ofStep []) = true := mayF_of _ 0 (cel_of l [] ha (fun c hc => by simp at hc)) (by rw [hsp]; omega)
  refine ⟨hm, ?_, sep_of l [] (fun i hi => by simp at hi), ?_⟩
  · unfold spreadR; rw [if_pos hm]; exact hsp
  · have : ∀ (l : List Int) (acc : List Cel), runsOk acc → runsOk (l.foldl ofStep acc) ∧ (l.foldl ofStep acc).length ≤ acc.length + l.length := by
      intro l
      induction l with
      | nil => intro acc h; exact ⟨h, by simp⟩
      | cons s l ih =>
        intro acc h
        obtain ⟨h1, h2⟩ := ofStep_ok acc s h
        obtain ⟨h3, h4⟩ := ih (ofStep acc s) h1
        exact ⟨h3, by rw [List.foldl_cons, List.length_cons]; omega⟩
    have h2 := this l [] hr0
    exact ⟨h2.1, by simpa using h2.2⟩
end Go.Proofs.YtbiglbclifbmhaaGreatDoor
