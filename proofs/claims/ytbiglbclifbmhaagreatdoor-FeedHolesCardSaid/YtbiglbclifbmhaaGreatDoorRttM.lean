/-
  Plain mathematics of times: samples, doublings, how long one waits. Nothing of the program is named here.
-/
namespace Go.Proofs.YtbiglbclifbmhaaGreatDoor
set_option linter.unusedVariables false

/-- What is known of a time: is it, smoothed, the spread, what doublings made of it. -/
structure RttS where
  known : Bool
  smooth : Int
  spread : Int
  backed : Int
namespace M
def rtD (d : Int) : Int := min (max d 0) 64000000
def rtApart (a b : Int) : Int := max (a - b) (b - a)
def rtBase (known : Bool) (smooth spread : Int) : Int := if known = true then min (max (smooth + max (4 * spread) 1000) 200000) 64000000 else 3000000
def rtDbl (n : Int) : Int := min (2 * n) 64000000
def rtDbls : Nat → Int → Int
  | 0, n => n
  | k + 1, n => rtDbl (rtDbls k n)
theorem rtD_bd (d : Int) : 0 ≤ rtD d ∧ rtD d ≤ 64000000 := by unfold rtD; omega
theorem rtBase_bd (k : Bool) (s v : Int) : 200000 ≤ rtBase k s v ∧ rtBase k s v ≤ 64000000 := by
  unfold rtBase
  split <;> omega
theorem rtDbl_bd (n : Int) (h : 200000 ≤ n) : 200000 ≤ rtDbl n ∧ rtDbl n ≤ 64000000 := by unfold rtDbl; omega
theorem rtDbls_bd (k : Nat) (n : Int) (h : 200000 ≤ n ∧ n ≤ 64000000) : 200000 ≤ rtDbls k n ∧ rtDbls k n ≤ 64000000 := by
  induction k with
  | zero => exact h
  | succ k ih => exact rtDbl_bd _ ih.1
end M
namespace RttS
def zero : RttS := ⟨false, 0, 0, 0⟩
def sample (s : RttS) (d : Int) : RttS :=
  if s.known = true then ⟨true, (7 * s.smooth + M.rtD d) / 8, (3 * s.spread + M.rtApart s.smooth (M.rtD d)) / 4, 0⟩ else ⟨true, M.rtD d, M.rtD d / 2, 0⟩
def rto (s : RttS) : Int := if s.backed = 0 then M.rtBase s.known s.smooth s.spread else s.backed
def back (s : RttS) : RttS := ⟨s.known, s.smooth, s.spread, M.rtDbl s.rto⟩
structure ok (s : RttS) : Prop where
  s0 : 0 ≤ s.smooth ∧ s.smooth ≤ 64000000
  s1 : 0 ≤ s.spread ∧ s.spread ≤ 64000000
  s2 : s.backed = 0 ∨ (200000 ≤ s.backed ∧ s.backed ≤ 64000000)
theorem ok_zero : zero.ok := ⟨by decide, by decide, .inl rfl⟩
theorem ok.sample {s : RttS} (h : s.ok) (d : Int) : (s.sample d).ok := by
  have hd := M.rtD_bd d
  obtain ⟨h0, h1, _⟩ := h
  unfold RttS.sample M.rtApart
  split
  · exact ⟨by simp only; omega, by simp only; omega, .inl rfl⟩
  · exact ⟨by simp only; omega, by simp only; omega, .inl rfl⟩
theorem ok.rto {s : RttS} (h : s.ok) : 200000 ≤ s.rto ∧ s.rto ≤ 64000000 := by
  have hb := M.rtBase_bd s.known s.smooth s.spread
  unfold RttS.rto
  rcases h.s2 with h2 | h2
  · rw [if_pos h2]; exact hb
  · rw [if_neg (by omega)]; exact h2
theorem ok.back {s : RttS} (h : s.ok) : s.back.ok := ⟨h.s0, h.s1, .inr (M.rtDbl_bd _ h.rto.1)⟩
theorem rto_back {s : RttS} (h : s.ok) : s.back.rto = M.rtDbl s.rto := by
  have := M.rtDbl_bd _ h.rto.1
  show (if M.rtDbl s.rto = 0 then _ else M.rtDbl s.rto) = _
  rw [if_neg (by omega)]
theorem known_sample (s : RttS) (d : Int) : (s.sample d).known = true := by unfold sample; split <;> rfl
theorem backed_sample (s : RttS) (d : Int) : (s.sample d).backed = 0 := by unfold sample; split <;> rfl
/-- As the document's: so many doublings since the last sample. -/
structure likeB (s : RttS) (known : Bool) (smooth spread : Int) (k : Nat) : Prop where
  e0 : known = s.known
  e1 : smooth = s.smooth
  e2 : spread = s.spread
  e3 : s.rto = M.rtDbls k (M.rtBase s.known s.smooth s.spread)
theorem like_zero : zero.likeB false 0 0 0 := ⟨rfl, rfl, rfl, rfl⟩
theorem likeB.back {s : RttS} {n : Bool} {a b : Int} {k : Nat} (h : s.likeB n a b k) (ho : s.ok) : s.back.likeB n a b (k + 1) :=
  ⟨h.e0, h.e1, h.e2, by rw [rto_back ho, h.e3]; rfl⟩
theorem like_sample (s : RttS) (d : Int) : (s.sample d).likeB true (s.sample d).smooth (s.sample d).spread 0 :=
  ⟨(known_sample s d).symm, rfl, rfl, by unfold rto; rw [backed_sample, if_pos rfl]; rfl⟩

/-- The same again and again. -/
theorem sample_first (d : Int) (h : 0 ≤ d ∧ d ≤ 64000000) : zero.sample d = ⟨true, d, d / 2, 0⟩ := by
  unfold sample zero
  have : M.rtD d = d := by unfold M.rtD; omega
  rw [this]; rfl
theorem sample_same (d v b : Int) (h : 0 ≤ d ∧ d ≤ 64000000) (hv : 0 ≤ v) : (⟨true, d, v, b⟩ : RttS).sample d = ⟨true, d, 3 * v / 4, 0⟩ := by
  unfold sample
  have e : M.rtD d = d := by unfold M.rtD; omega
  rw [if_pos rfl, e]
  have e1 : (7 * d + d) / 8 = d := by omega
  have e2 : M.rtApart d d = 0 := by unfold M.rtApart; omega
  simp only [e1, e2, Int.add_zero]
def fade : Nat → Int → Int
  | 0, v => v
  | k + 1, v => 3 * fade k v / 4
theorem fade_mono (k : Nat) {a b : Int} (h : a ≤ b) : fade k a ≤ fade k b := by
  induction k with
  | zero => exact h
  | succ k ih => simp only [fade]; omega
theorem fade_nonneg (k : Nat) {a : Int} (h : 0 ≤ a) : 0 ≤ fade k a := by
  induction k with
  | zero => exact h
  | succ k ih => simp only [fade]; omega
theorem fade_le (k : Nat) {a : Int} (h : 0 ≤ a) : fade k a ≤ a := by
  induction k with
  | zero => exact Int.le_refl _
  | succ k ih => have := fade_nonneg k h; simp only [fade]; omega
theorem fade_more (j k : Nat) (a : Int) : fade (j + k) a = fade j (fade k a) := by
  induction j with
  | zero => rw [Nat.zero_add]; rfl
  | succ j ih => rw [show j + 1 + k = (j + k) + 1 by omega]; simp only [fade]; rw [ih]
theorem fade_60 : fade 60 32000000 ≤ 250 := by decide +kernel
theorem fade_end (n : Nat) (h : 60 ≤ n) (d : Int) (hd : 0 ≤ d ∧ d ≤ 64000000) : 0 ≤ fade n (d / 2) ∧ fade n (d / 2) ≤ 250 := by
  have h0 : 0 ≤ d / 2 := by omega
  refine ⟨fade_nonneg n h0, ?_⟩
  rw [show n = (n - 60) + 60 by omega, fade_more]
  have h1 := fade_le (n - 60) (fade_nonneg 60 h0)
  have h2 := fade_mono 60 (show d / 2 ≤ 32000000 by omega)
  have h3 := fade_60
  omega
theorem rto_known (d v : Int) : (⟨true, d, v, 0⟩ : RttS).rto = min (max (d + max (4 * v) 1000) 200000) 64000000 := rfl
/-- A sample of what is smoothed: no longer a wait. -/
theorem rto_again {s : RttS} (h : s.ok) (hk : s.known = true) : (s.sample s.smooth).rto ≤ M.rtBase true s.smooth s.spread ∧ 200000 ≤ (s.sample s.smooth).rto := by
  refine ⟨?_, (h.sample _).rto.1⟩
  obtain ⟨h0, h1, _⟩ := h
  obtain ⟨k, m, v, b⟩ := s
  simp only at *
  subst hk
  have e : M.rtD m = m := by unfold M.rtD; omega
  unfold sample
  rw [if_pos rfl]
  simp only [e]
  have e1 : (7 * m + m) / 8 = m := by omega
  have e2 : M.rtApart m m = 0 := by unfold M.rtApart; omega
  rw [e1, e2, rto_known]
  unfold M.rtBase
  rw [if_pos rfl]
  omega
end RttS
end Go.Proofs.YtbiglbclifbmhaaGreatDoor
