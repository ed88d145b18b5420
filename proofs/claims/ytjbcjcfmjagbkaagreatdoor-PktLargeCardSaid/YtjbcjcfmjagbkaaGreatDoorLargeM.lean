/-
  Packets as long as they may be: what is written of them.
-/
import Derived.Test.YtjbcjcfmjagbkaaGreatDoorPktMath
namespace Go.Proofs.YtjbcjcfmjagbkaaGreatDoor
open Go
set_option linter.unusedVariables false
set_option linter.unusedSimpArgs false

def lgP : M.Opt := ⟨99, List.replicate 253 0⟩
def lgOs (k : Nat) : List M.Opt := List.replicate k lgP
def lgH : Hd := ⟨0, 0, 0, 0, 0, 0, 4, true, 0, 0, 0, 0, 0, 0, 0⟩
theorem lgOs_succ (k : Nat) : lgOs k ++ [lgP] = lgOs (k + 1) := by unfold lgOs; rw [List.replicate_succ']
theorem lg_ok : lgH.ok := ⟨by decide, by decide, by decide, by decide, by decide, by decide⟩
theorem lg_bare : lgH.bare.mayB = true := by decide +kernel
theorem lg_may : M.optMay lgP = true := by decide +kernel
theorem lg_all (k : Nat) : (lgOs k).all M.optMay = true := by
  rw [List.all_eq_true]
  intro o ho
  rw [List.eq_of_mem_replicate ho]; exact lg_may
theorem lg_want (k : Nat) : wantO (lgOs k) = lgOs k := by
  unfold wantO lgOs
  rw [List.filter_eq_self]
  intro o ho
  rw [List.eq_of_mem_replicate ho]; decide
theorem lg_bad : ∀ k, badF false (lgOs k) = false
  | 0 => rfl
  | k + 1 => by
    have e : lgOs (k + 1) = lgP :: lgOs k := rfl
    rw [e]
    have h0 : ¬ lgP.t = 0 := by decide
    have h1 : ¬ (false = true ∧ lgP.t = 1) := by decide
    have h2 : decide (lgP.t = 1) = false := by decide
    unfold badF
    rw [if_neg h0, if_neg h1, h2]; exact lg_bad k
theorem lg_off : offN lgH (lgOs 0) = 6 ∧ offN lgH (lgOs 1) = 70 ∧ offN lgH (lgOs 2) = 134 ∧ offN lgH (lgOs 3) = 198 ∧ offN lgH (lgOs 4) = 261 := by decide +kernel
theorem lg_pos : (M.putOpts (lgOs 0)).length = 0 ∧ (M.putOpts (lgOs 1)).length = 256 ∧ (M.putOpts (lgOs 2)).length = 512 ∧ (M.putOpts (lgOs 3)).length = 768 ∧ (M.putOpts (lgOs 4)).length = 1020 := by decide +kernel
theorem lg_four (k : Nat) (hk : k ≤ 4) : 4 * offN lgH (lgOs k) = (24 + 255 * k + 3) / 4 * 4 ∧ ¬ ((M.putOpts (lgOs k)).length = 0 ∧ 0 < (lgOs k).length) := by
  obtain ⟨a0, a1, a2, a3, a4⟩ := lg_off
  obtain ⟨b0, b1, b2, b3, b4⟩ := lg_pos
  have hk' : k = 0 ∨ k = 1 ∨ k = 2 ∨ k = 3 ∨ k = 4 := by omega
  rcases hk' with rfl | rfl | rfl | rfl | rfl
  · rw [a0]; exact ⟨rfl, fun h => by have := h.2; simp [lgOs] at this⟩
  · rw [a1]; exact ⟨rfl, fun h => by rw [b1] at h; omega⟩
  · rw [a2]; exact ⟨rfl, fun h => by rw [b2] at h; omega⟩
  · rw [a3]; exact ⟨rfl, fun h => by rw [b3] at h; omega⟩
  · rw [a4]; exact ⟨rfl, fun h => by rw [b4] at h; omega⟩
/-- Which error: 13 where it is more than may be. -/
theorem lg_err (k : Nat) (hk : k ≤ 4) (d : List UInt8) (hd : d.length ≤ 1403) : putErr lgH (lgOs k) d = if 1400 < d.length ∨ 1020 < (24 + 255 * k + 3) / 4 * 4 then 13 else 0 := by
  obtain ⟨h4, h7⟩ := lg_four k hk
  unfold putErr
  rw [if_neg (by rw [lg_bare]; decide), if_neg h7]
  have hl : largeB (offN lgH (lgOs k)) d.length = decide (1400 < d.length ∨ 1020 < (24 + 255 * k + 3) / 4 * 4) := by
    unfold largeB
    rw [decide_eq_decide]; omega
  rw [hl]
  by_cases hc : 1400 < d.length ∨ 1020 < (24 + 255 * k + 3) / 4 * 4
  · rw [if_pos hc, if_pos (decide_eq_true hc)]
  · rw [if_neg hc, if_neg (by rw [decide_eq_true_eq]; exact hc)]
    have hcv : covB (4 * offN lgH (lgOs k) + d.length : Nat) (4 * offN lgH (lgOs k) : Nat) lgH.cs = true := by
      unfold covB
      rw [decide_eq_true_eq]
      refine ⟨?_, .inl rfl⟩
      have : lgH.cs = 0 := rfl
      rw [this]; omega
    rw [if_neg (by rw [hcv]; decide)]
/-- What is read of it. -/
theorem lg_get (k : Nat) (hk : k ≤ 4) (d : List UInt8) (hd : d.length ≤ 1403) (he : putErr lgH (lgOs k) d = 0) :
    getErr (pkBytes lgH (lgOs k) d) = 0 ∧ getOs (pkBytes lgH (lgOs k) d) = some (lgOs k) ∧ (pkBytes lgH (lgOs k) d).length = (24 + 255 * k + 3) / 4 * 4 + d.length := by
  have R := pk_round lgH (lgOs k) d lg_ok he
  have hg : getOs (pkBytes lgH (lgOs k) d) = some (lgOs k) := by
    rw [R.gos, get_put _ (lg_all k), lg_bad, if_neg (by decide), lg_want]
  refine ⟨by rw [R.err, if_neg (by rw [hg]; simp)], hg, ?_⟩
  rw [R.len, (lg_four k hk).1]
end Go.Proofs.YtjbcjcfmjagbkaaGreatDoor
