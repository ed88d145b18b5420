/-
  Options that are written are read; how many there may be; options that are torn.
-/
import Derived.Test.YtcdhllajdpalaaaGreatDoorOpB
namespace Go.Proofs.YtcdhllajdpalaaaGreatDoor
open Go
set_option linter.unusedSimpArgs false

/-- What is read of bytes, an option waiting or not. -/
def getL (w : Bool) (l : List UInt8) : Option (List M.Opt) := M.getF l.length w l
theorem getL_nil (w : Bool) : getL w [] = if w = true then none else some [] := by unfold getL M.getF; simp
theorem getL_step {w : Bool} {l : List UInt8} (hne : l ≠ []) (n : Nat) (o : M.Opt) (hn : M.firstN l = n) (h0 : n ≠ 0) (ho : M.firstO l = o) :
    getL w l = if o.t = 0 then getL w (l.drop n) else if w = true ∧ o.t = 1 then none else (getL (decide (o.t = 1)) (l.drop n)).map (o :: ·) := by
  unfold getL
  rw [getF_cons hne, hn, ho, if_neg h0]
theorem getL_bad {w : Bool} {l : List UInt8} (hne : l ≠ []) (hn : M.firstN l = 0) : getL w l = none := by
  unfold getL
  rw [getF_cons hne, if_pos hn]

theorem getF_bound (f : Nat) : ∀ w l os, M.getF f w l = some os → os.length ≤ l.length ∧ ∀ o ∈ os, o.d.length ≤ 253 := by
  induction f with
  | zero =>
    intro w l os h
    unfold M.getF at h
    split at h
    · split at h
      · cases h
      · injection h with h; subst h; simp
    · cases h
  | succ f ih =>
    intro w l os h
    unfold M.getF at h
    split at h
    · split at h
      · cases h
      · injection h with h; subst h; simp
    · rename_i hne
      have hle := M.firstN_le l hne
      split at h
      · cases h
      · split at h
        · have := ih _ _ _ h
          rw [List.length_drop] at this
          exact ⟨by omega, this.2⟩
        · split at h
          · cases h
          · cases hr : M.getF f (decide ((M.firstO l).t = 1)) (l.drop (M.firstN l)) with
            | none => rw [hr] at h; cases h
            | some os' =>
              rw [hr] at h
              injection h with h
              subst h
              have := ih _ _ _ hr
              rw [List.length_drop] at this
              refine ⟨by simp; omega, fun o ho => ?_⟩
              rcases List.mem_cons.1 ho with e | e
              · subst e; exact (M.firstO_le l).2.2
              · exact this.2 o e
theorem getOpts_bound {l : List UInt8} {os : List M.Opt} (h : M.getOpts l = some os) : os.length ≤ l.length ∧ ∀ o ∈ os, o.d.length ≤ 253 := getF_bound _ _ _ _ h

theorem bAt_cons (b : UInt8) (l : List UInt8) (i : Nat) : M.bAt (b :: l) (i + 1) = M.bAt l i := by unfold M.bAt; simp
theorem bAt_zero (b : UInt8) (l : List UInt8) : M.bAt (b :: l) 0 = b.toNat := by unfold M.bAt; simp
theorem first_short (o : M.Opt) (tl : List UInt8) (h : M.optMay o = true) (ht : o.t < 32) : M.firstN (M.optBytes o ++ tl) = 1 ∧ M.firstO (M.optBytes o ++ tl) = o ∧ (M.optBytes o ++ tl).drop 1 = tl := by
  have hm : 0 ≤ o.t ∧ o.t ≤ 255 ∧ (o.t < 32 ∧ o.d.length = 0 ∨ 32 ≤ o.t ∧ o.d.length ≤ 253) := of_decide_eq_true h
  have hb : M.optBytes o = [UInt8.ofNat o.t.toNat] := if_pos ht
  have e : M.bAt (M.optBytes o ++ tl) 0 = o.t.toNat := by
    rw [hb, List.singleton_append, bAt_zero, UInt8.toNat_ofNat']; exact Nat.mod_eq_of_lt (by omega)
  have hd : o.d = [] := List.eq_nil_of_length_eq_zero (by omega)
  refine ⟨?_, ?_, by rw [hb]; rfl⟩
  · unfold M.firstN; rw [e, if_pos (by omega)]
  · unfold M.firstO; rw [e, if_pos (by omega)]
    have e1 : (⟨(o.t.toNat : Int), o.d⟩ : M.Opt) = o := congrArg (fun x => (⟨x, o.d⟩ : M.Opt)) (Int.toNat_of_nonneg hm.1)
    rw [hd] at e1
    exact e1
theorem first_long (o : M.Opt) (tl : List UInt8) (h : M.optMay o = true) (ht : ¬ o.t < 32) : M.firstN (M.optBytes o ++ tl) = 2 + o.d.length ∧ M.firstO (M.optBytes o ++ tl) = o ∧ (M.optBytes o ++ tl).drop (2 + o.d.length) = tl := by
  have hm : 0 ≤ o.t ∧ o.t ≤ 255 ∧ (o.t < 32 ∧ o.d.length = 0 ∨ 32 ≤ o.t ∧ o.d.length ≤ 253) := of_decide_eq_true h
  have hb : M.optBytes o = UInt8.ofNat o.t.toNat :: UInt8.ofNat (2 + o.d.length) :: o.d := if_neg ht
  have e0 : M.bAt (M.optBytes o ++ tl) 0 = o.t.toNat := by
    rw [hb, List.cons_append, bAt_zero, UInt8.toNat_ofNat']; exact Nat.mod_eq_of_lt (by omega)
  have e1 : M.bAt (M.optBytes o ++ tl) 1 = 2 + o.d.length := by
    rw [hb, List.cons_append, List.cons_append, bAt_cons, bAt_zero, UInt8.toNat_ofNat']; exact Nat.mod_eq_of_lt (by omega)
  have hl : (M.optBytes o ++ tl).length = 2 + o.d.length + tl.length := by rw [hb]; simp; omega
  have hn : M.firstN (M.optBytes o ++ tl) = 2 + o.d.length := by
    unfold M.firstN; rw [e0, e1, if_neg (by omega), if_neg (by omega), if_neg (by omega)]
  refine ⟨hn, ?_, ?_⟩
  · unfold M.firstO
    rw [hn, e0, e1, if_neg (by omega), if_neg (by omega)]
    have : ((M.optBytes o ++ tl).take (2 + o.d.length)).drop 2 = o.d := by
      rw [hb, Nat.add_comm 2]
      simp
    rw [this]
    exact congrArg (fun x => (⟨x, o.d⟩ : M.Opt)) (Int.toNat_of_nonneg hm.1)
  · have e : (2 + o.d.length) = (M.optBytes o).length := by rw [hb]; simp; omega
    rw [e, List.drop_left]

/-- What is read of options: none that are pads. -/
def wantO (os : List M.Opt) : List M.Opt := os.filter fun o => decide (o.t ≠ 0)
/-- Is a Mandatory followed by another one, or by nothing? -/
def badF : Bool → List M.Opt → Bool
  | w, [] => w
  | w, o :: os => if o.t = 0 then badF w os else if w = true ∧ o.t = 1 then true else badF (decide (o.t = 1)) os

theorem getL_pads (w : Bool) (m : Nat) : getL w (List.replicate m 0) = if w = true then none else some [] := by
  induction m with
  | zero => exact getL_nil w
  | succ m ih =>
    have hmay : M.optMay ⟨0, []⟩ = true := by decide
    obtain ⟨h1, h2, h3⟩ := first_short ⟨0, []⟩ (List.replicate m 0) hmay (by decide)
    have e : List.replicate (m + 1) (0 : UInt8) = M.optBytes ⟨0, []⟩ ++ List.replicate m 0 := rfl
    rw [e, getL_step (by simp [M.optBytes]) 1 ⟨0, []⟩ h1 (by decide) h2, if_pos rfl, h3, ih]
theorem getL_written (os : List M.Opt) : ∀ (w : Bool) (m : Nat), os.all M.optMay = true → getL w (M.optsBytes os ++ List.replicate m 0) = if badF w os = true then none else some (wantO os) := by
  induction os with
  | nil => intro w m _; exact getL_pads w m
  | cons o os ih =>
    intro w m h
    simp only [List.all_cons, Bool.and_eq_true] at h
    have e : M.optsBytes (o :: os) ++ List.replicate m 0 = M.optBytes o ++ (M.optsBytes os ++ List.replicate m 0) := by simp [M.optsBytes]
    have hne : M.optBytes o ++ (M.optsBytes os ++ List.replicate m 0) ≠ [] := by
      have := (M.optBytes_len h.1).1
      intro hh
      have := congrArg List.length hh
      rw [List.length_append, List.length_nil] at this; omega
    have key : ∃ n, n ≠ 0 ∧ M.firstN (M.optBytes o ++ (M.optsBytes os ++ List.replicate m 0)) = n ∧ M.firstO (M.optBytes o ++ (M.optsBytes os ++ List.replicate m 0)) = o ∧ (M.optBytes o ++ (M.optsBytes os ++ List.replicate m 0)).drop n = M.optsBytes os ++ List.replicate m 0 := by
      by_cases ht : o.t < 32
      · obtain ⟨a, b, c⟩ := first_short o _ h.1 ht
        exact ⟨1, by decide, a, b, c⟩
      · obtain ⟨a, b, c⟩ := first_long o _ h.1 ht
        exact ⟨_, by omega, a, b, c⟩
    obtain ⟨n, hn, a, b, c⟩ := key
    rw [e, getL_step hne n o a hn b, c]
    unfold badF
    by_cases h0 : o.t = 0
    · rw [if_pos h0, if_pos h0, ih _ _ h.2]
      have : wantO (o :: os) = wantO os := by unfold wantO; rw [List.filter_cons_of_neg (by simpa using h0)]
      rw [this]
    · rw [if_neg h0, if_neg h0]
      by_cases h1 : w = true ∧ o.t = 1
      · rw [if_pos h1, if_pos h1]; rfl
      · rw [if_neg h1, if_neg h1, ih _ _ h.2]
        have : wantO (o :: os) = o :: wantO os := by unfold wantO; rw [List.filter_cons_of_pos (by simpa using h0)]
        rw [this]
        split <;> rfl
/-- What is written is read. -/
theorem get_put (os : List M.Opt) (h : os.all M.optMay = true) : M.getOpts (M.putOpts os) = if badF false os = true then none else some (wantO os) := by
  unfold M.putOpts
  rw [if_pos h]
  exact getL_written os false _ h

/-- One option whose length is another one; one that is torn. -/
theorem one_bytes (nb : UInt8) (d : List UInt8) : M.bAt (40 :: nb :: d) 0 = 40 ∧ M.bAt (40 :: nb :: d) 1 = nb.toNat := ⟨rfl, by unfold M.bAt; simp⟩
theorem one_none (nb : UInt8) (d : List UInt8) (h : nb.toNat < 2 ∨ d.length + 2 < nb.toNat) : M.getOpts (40 :: nb :: d) = none := by
  obtain ⟨e0, e1⟩ := one_bytes nb d
  refine getL_bad (by simp) ?_
  unfold M.firstN
  rw [e0, e1, if_neg (by omega), if_neg (by simp), if_pos (by simp; omega)]
theorem one_whole (nb : UInt8) (d : List UInt8) (h : nb.toNat = d.length + 2) : M.getOpts (40 :: nb :: d) = some [⟨40, d⟩] := by
  obtain ⟨e0, e1⟩ := one_bytes nb d
  have hn : M.firstN (40 :: nb :: d) = d.length + 2 := by
    unfold M.firstN
    rw [e0, e1, if_neg (by omega), if_neg (by simp), if_neg (by simp; omega), h]
  have ho : M.firstO (40 :: nb :: d) = ⟨40, d⟩ := by
    unfold M.firstO
    rw [e0, e1, if_neg (by omega), if_neg (by omega), h]
    simp
  have hs := getL_step (w := false) (l := 40 :: nb :: d) (by simp) _ _ hn (by omega) ho
  have : M.getOpts (40 :: nb :: d) = getL false (40 :: nb :: d) := rfl
  rw [this, hs]
  have hd : (40 :: nb :: d).drop (d.length + 2) = [] := List.drop_eq_nil_of_le (by simp)
  rw [hd, if_neg (show ¬ (40 : Int) = 0 by decide), if_neg (by simp), getL_nil]
  simp
theorem one_torn (nb : UInt8) (d : List UInt8) (h : nb.toNat = d.length + 2) (k : Nat) (h0 : 0 < k) (hk : k < d.length + 2) : M.getOpts ((40 :: nb :: d).take k) = none := by
  rcases k with _ | _ | k
  · omega
  · refine getL_bad (l := [40]) (by simp) ?_
    decide
  · have e : (40 :: nb :: d).take (k + 1 + 1) = 40 :: nb :: d.take k := by simp
    rw [e]
    exact one_none nb (d.take k) (.inr (by rw [List.length_take]; omega))
end Go.Proofs.YtcdhllajdpalaaaGreatDoor
