/-
  The law NegoAgain: what is held (pure).
-/
import Derived.Test.YtfmnpepgmedfpaaGreatDoorNgZ
namespace Go.Proofs.YtfmnpepgmedfpaaGreatDoor
open Go.ChangeShapes Go.WideShapes Go.ChangeAt Go.RowKit
set_option linter.unusedVariables false
set_option linter.unusedSimpArgs false

theorem ftAll_mem (f : Int) (b : UInt8) (h : ftMay f [b] = true) : b ∈ ftAll f := by
  unfold ftAll ftAllTo
  rw [List.mem_filter]
  refine ⟨List.mem_map.2 ⟨b.toNat, List.mem_range.2 (UInt8.toNat_lt b), by simp⟩, h⟩
theorem ftMay_each {f : Int} {l : List UInt8} (h3 : f ≠ 3) (h : ftMay f l = true) {b : UInt8} (hb : b ∈ l) : ftMay f [b] = true := by
  unfold ftMay at h ⊢
  rw [if_neg h3] at h ⊢
  cases hs : ftSpan f with
  | none => rw [hs] at h; cases h
  | some p =>
    obtain ⟨lo, hi⟩ := p
    rw [hs] at h
    dsimp only at h ⊢
    unfold ftList at h ⊢
    have h1 : FtGood lo hi l ∧ l ≠ [] := by simpa using h
    have h2 : FtGood lo hi [b] := ⟨by simp, fun c hc => by rw [List.mem_singleton.1 hc]; exact h1.1.2 b hb⟩
    simpa using h2
theorem ftPick_some (s c : List UInt8) (h : ∃ b, b ∈ s ∧ b ∈ c) : ∃ x, ftPick s c = some [x] ∧ x ∈ s ∧ x ∈ c := by
  cases hp : ftPick s c with
  | none =>
    exfalso
    unfold ftPick at hp
    cases hf : s.find? fun b => decide (b ∈ c) with
    | some b => rw [hf] at hp; cases hp
    | none =>
      obtain ⟨b, hb, hc⟩ := h
      have := List.find?_eq_none.1 hf b hb
      simp at this
      exact this hc
  | some x =>
    obtain ⟨b, rfl, h1, h2⟩ := ftPick_one hp
    exact ⟨b, rfl, h1, h2⟩
theorem ftMay_all (f : Int) (h : f = 1 ∨ f = 6 ∨ f = 8) : ftMay f (ftAll f) = true := by
  rcases h with rfl | rfl | rfl <;> decide +kernel
/-- With all that may be liked, both come to a value of what is asked for. -/
theorem na_pick (server : Bool) (f : Int) (hf : f = 1 ∨ f = 3 ∨ f = 6 ∨ f = 8) (v : List UInt8) (hm : ftMay f v = true) :
    ∃ x, (ngInit server).pick f v = some x ∧ (f ≠ 3 → ∃ c, x = [c] ∧ c ∈ v) ∧ (f = 3 → x = v) := by
  unfold NgS.pick
  rw [if_pos hm]
  by_cases h3 : f = 3
  · refine ⟨v, ?_, fun h => absurd h3 h, fun _ => rfl⟩
    rw [if_pos (.inr (by rw [h3]; rfl))]
    unfold ftChoose
    rw [if_pos hm, if_pos h3]
  · have hf2 : f = 1 ∨ f = 6 ∨ f = 8 := by omega
    have hl : ftLst f = true := by rcases hf2 with rfl | rfl | rfl <;> rfl
    have hne : v ≠ [] := fun e => by have := (ftMay_len hm).2; rw [e] at this; simp at this
    obtain ⟨b, hb⟩ := List.exists_mem_of_ne_nil v hne
    have hba := ftAll_mem f b (ftMay_each h3 hm hb)
    have hall := ftMay_all f hf2
    by_cases hc : server = true
    · obtain ⟨x, hx, _, hxv⟩ := ftPick_some (ftAll f) v ⟨b, hba, hb⟩
      refine ⟨[x], ?_, fun _ => ⟨x, rfl, hxv⟩, fun h => absurd h h3⟩
      rw [if_pos (.inl hc)]
      unfold ftChoose
      rw [if_pos hm, if_neg h3, show (ngInit server).like f = ftAll f from rfl, if_pos hall, hx]
    · obtain ⟨x, hx, hxv, _⟩ := ftPick_some v (ftAll f) ⟨b, hb, hba⟩
      refine ⟨[x], ?_, fun _ => ⟨x, rfl, hxv⟩, fun h => absurd h h3⟩
      rw [if_neg (fun h => by rcases h with h | h; exact hc h; rw [hl] at h; cases h)]
      unfold ftChoose
      rw [show (ngInit server).like f = ftAll f from rfl, if_pos hall, if_neg h3, if_pos hm, hx]
/-- What is said, and what is held then. -/
theorem na_take (server : Bool) (f : Int) (b : UInt8) (hb : (b.toNat : Int) = f) (v : List UInt8) (s : NgS) (hs : s = ngInit server ∨ s = (ngInit server).settled f v) :
    s.take1 [] ⟨32, b :: v⟩ false = ⟨true, (ngInit server).settled f v, [⟨35, b :: (ngInit server).says f v⟩]⟩ := by
  have key : s.says f v = (ngInit server).says f v ∧ s.settled f v = (ngInit server).settled f v := by
    rcases hs with rfl | rfl
    · exact ⟨rfl, rfl⟩
    · cases hp : (ngInit server).pick f v with
      | none =>
        have e : (ngInit server).settled f v = ngInit server := by unfold NgS.settled; rw [hp]
        rw [e]
        exact ⟨rfl, e⟩
      | some x =>
        have e : (ngInit server).settled f v = { ngInit server with theirs := upd (ngInit server).theirs f x } := by unfold NgS.settled; rw [hp]
        rw [e]
        have hp2 : ({ ngInit server with theirs := upd (ngInit server).theirs f x } : NgS).pick f v = some x := hp
        constructor
        · unfold NgS.says
          rw [hp2, hp]
        · unfold NgS.settled
          rw [hp2]
          have e2 : upd (upd (ngInit server).theirs f x) f x = upd (ngInit server).theirs f x := by
            funext g
            unfold upd
            split <;> rfl
          show ({ ngInit server with theirs := upd (upd (ngInit server).theirs f x) f x } : NgS) = _
          rw [e2]
  unfold NgS.take1
  rw [if_pos (show ngKind 32 = true from rfl)]
  dsimp only
  unfold NgS.hear
  rw [if_pos rfl, if_neg (fun h => by cases h.2), hb, key.1, key.2]
  rfl
theorem na_asks (server : Bool) (f : Int) (v : List UInt8) : ((ngInit server).settled f v).asks = [] := by
  unfold NgS.settled
  split <;> rfl
/-- The other side, that asked for v, hears it confirmed. -/
theorem na_confirm (server : Bool) (f : Int) (hf : f = 1 ∨ f = 3 ∨ f = 6 ∨ f = 8) (b : UInt8) (hb : (b.toNat : Int) = f) (v : List UInt8) (hm : ftMay f v = true) :
    ∃ M : NgS, ({ ngInit (!server) with want := upd (ngInit (!server)).want f v } : NgS).take [] [⟨35, b :: (ngInit server).says f v⟩] = ⟨true, M, []⟩ ∧ M.take [] [⟨35, b :: (ngInit server).says f v⟩] = ⟨true, M, []⟩ ∧ M.done = true ∧
      M.mine f = ((ngInit server).settled f v).theirs f ∧ (f = 3 → M.mine f = v) ∧ (f ≠ 3 → (M.mine f).length = 1) := by
  obtain ⟨x, hp, h1, h2⟩ := na_pick server f hf v hm
  have hk : ftKnown f = true := ftMay_known hm
  have hne : v ≠ [] := fun e => by have := (ftMay_len hm).2; rw [e] at this; simp at this
  have hth : ((ngInit server).settled f v).theirs f = x := by
    unfold NgS.settled
    rw [hp]
    show upd (ngInit server).theirs f x f = x
    unfold upd
    rw [if_pos rfl]
  have hwv : upd (ngInit (!server)).want f v f = v := by unfold upd; rw [if_pos rfl]
  have hcl : upd (upd (ngInit (!server)).want f v) f [] = fun _ => [] := by
    funext g
    unfold upd
    split
    · rfl
    · rfl
  refine ⟨{ ngInit (!server) with mine := upd (ngInit (!server)).mine f x, want := upd (upd (ngInit (!server)).want f v) f [] }, ?_, ?_, ?_, ?_, ?_, ?_⟩
  · rw [NgS.take_one]
    unfold NgS.take1
    rw [if_pos (show ngKind 35 = true from rfl)]
    dsimp only
    unfold NgS.hear
    rw [if_neg (by decide), if_neg (by decide), if_pos rfl, hb]
    have hc : ({ ngInit (!server) with want := upd (ngInit (!server)).want f v } : NgS).confirm f ((ngInit server).says f v) = some { ngInit (!server) with mine := upd (ngInit (!server)).mine f x, want := upd (upd (ngInit (!server)).want f v) f [] } := by
      unfold NgS.confirm
      rw [if_pos ⟨hk, by show upd (ngInit (!server)).want f v f ≠ []; rw [hwv]; exact hne⟩]
      unfold NgS.says
      rw [hp]
      dsimp only
      by_cases h3 : f = 3
      · have hl : ¬ ftLst f = true := by rw [h3]; decide
        rw [if_neg hl, h2 h3]
        cases hv : v with
        | nil => exact absurd hv hne
        | cons c r =>
          dsimp only
          rw [if_neg hl, if_pos (by show upd (ngInit (!server)).want f (c :: r) f = c :: r; unfold upd; rw [if_pos rfl])]
      · obtain ⟨c, rfl, hcv⟩ := h1 h3
        have hl : ftLst f = true := by
          have hf2 : f = 1 ∨ f = 6 ∨ f = 8 := by omega
          rcases hf2 with rfl | rfl | rfl <;> rfl
        rw [if_pos hl]
        show (if ftLst f = true then _ else _) = _
        rw [if_pos hl, if_pos (by show c ∈ upd (ngInit (!server)).want f v f; rw [hwv]; exact hcv)]
    rw [hc]
  · rw [NgS.take_one, hcl]
    unfold NgS.take1
    rw [if_pos (show ngKind 35 = true from rfl)]
    dsimp only
    unfold NgS.hear
    rw [if_neg (by decide), if_neg (by decide), if_pos rfl]
    unfold NgS.confirm
    rw [if_neg (fun h => h.2 rfl)]
  · rw [hcl]
    rfl
  · rw [hth]
    show upd (ngInit (!server)).mine f x f = x
    unfold upd
    rw [if_pos rfl]
  · intro h3
    show upd (ngInit (!server)).mine f x f = v
    unfold upd
    rw [if_pos rfl, h2 h3]
  · intro h3
    obtain ⟨c, rfl, _⟩ := h1 h3
    show (upd (ngInit (!server)).mine f [c] f).length = 1
    unfold upd
    rw [if_pos rfl]
    rfl
end Go.Proofs.YtfmnpepgmedfpaaGreatDoor
