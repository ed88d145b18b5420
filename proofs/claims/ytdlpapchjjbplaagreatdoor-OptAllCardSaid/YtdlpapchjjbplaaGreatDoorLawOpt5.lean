/-
  A slice of options that came in, opened.
-/
import Derived.Test.YtdlpapchjjbplaaGreatDoorLawOpt4
import Derived.Deep.Slices
import Derived.Deep.Fields
import Derived.ChangeSame
namespace Go.Proofs.YtdlpapchjjbplaaGreatDoor
open Go.ChangeShapes Go.WideShapes Go.Deep Go.RowKit
set_option linter.unusedVariables false

theorem list_of {P : Nat → M.Opt → Prop} : ∀ m, (∀ i, i < m → ∃ o, P i o) → ∃ os : List M.Opt, os.length = m ∧ ∀ i, i < m → P i (os.getD i ⟨0, []⟩) := by
  intro m
  induction m with
  | zero => intro _; exact ⟨[], rfl, fun i hi => absurd hi (Nat.not_lt_zero i)⟩
  | succ m ih =>
    intro h
    obtain ⟨os, hl, ho⟩ := ih (fun i hi => h i (by omega))
    obtain ⟨o, hp⟩ := h m (by omega)
    refine ⟨os ++ [o], by simp [hl], fun i hi => ?_⟩
    by_cases e : i < m
    · have := ho i e
      rw [List.getD_eq_getElem?_getD] at this ⊢
      rwa [List.getElem?_append_left (by omega)]
    · obtain rfl : i = m := by omega
      rw [List.getD_eq_getElem?_getD, List.getElem?_append_right (by omega), hl]
      simpa using hp

theorem cell_add {w : World} {base : Nat} {a : Addr} {n : Nat} {cs : List Value} (h : w.cells? base a n = some cs) : cs.length = n ∧ ∀ j, j < n → w.cell? (a.add j) = cs[j]? := by
  obtain ⟨_, hcl, hat⟩ := World.cells?_some h
  exact ⟨hcl, hat⟩

set_option maxRecDepth 100000 in
theorem open_opts {H : Type} {enc : TypeId × Value → H} {W : World} {p : Option Addr} {n c : Nat} {d : DataW H} {q : List MemPlace}
    (h : DataW.Trod enc Tryz.prog W 0 (fun _ => true) true 48 (.slice p n c) d q) : n ≤ c ∧ c ≤ 9223372036854775807 ∧ ∃ os : List M.Opt, os.length = min n 8 ∧ OptsAt W (.slice p os.length c) os := by
  obtain ⟨fuel, hf⟩ := h
  rcases open_slice Tryz.underlying48 hf with ⟨hcs, hx⟩ | ⟨a, len, cap, m, n', D, Pl, hcs, hb, hl, hm, hmm, hx, hi⟩
  · simp [Value.cells] at hcs
    obtain ⟨rfl, rfl, rfl⟩ := hcs
    exact ⟨by omega, by omega, [], by simp, opts_nilAt W⟩
  · simp [Value.cells] at hcs
    obtain ⟨rfl, rfl, rfl⟩ := hcs
    have hm' : c ≤ 9223372036854775807 := hm
    simp only [if_true] at hmm
    have hC : Tryz.prog.cellsOf 54 = 2 := by kernel_rfl
    rw [hC] at hi
    have key : ∀ i, i < m → ∃ o : M.Opt, W.cell? ((a.add (i * 2)).add 0) = some (.int .i64 o.t) ∧ W.cell? ((a.add (i * 2)).add 1) = some (.string (str o.d)) ∧ o.d.length ≤ maxLen := by
      intro i him
      obtain ⟨cs', hc, ht'⟩ := hi i him
      obtain ⟨hcl, hat⟩ := cell_add hc
      obtain ⟨ys, n2, hn2, hy, hlen, hyl, hff⟩ := DataW.trod_struct Tryz.underlying54 ht'
      match cs', hcl with
      | [x0, x1], _ =>
        have h0 := hff 0 _ rfl
        have h1 := hff 1 _ rfl
        have e0 : ys[0]? = some (ys[0]'(by rw [hyl]; decide)) := List.getElem?_eq_getElem _
        have e1 : ys[1]? = some (ys[1]'(by rw [hyl]; decide)) := List.getElem?_eq_getElem _
        rw [e0] at h0
        rw [e1] at h1
        have k0 : DataW.trod enc Tryz.prog W 0 (fun _ => true) true n2 3 [x0] = some (ys[0]'(by rw [hyl]; decide)) := h0
        have k1 : DataW.trod enc Tryz.prog W 0 (fun _ => true) true n2 9 [x1] = some (ys[1]'(by rw [hyl]; decide)) := h1
        obtain ⟨z, hz, _, _⟩ := DataW.trod_int Tryz.underlying3 k0
        obtain ⟨s, hs, _, hsl⟩ := DataW.trod_string Tryz.underlying9 k1
        simp at hz hs
        subst hz hs
        refine ⟨⟨z, s.data.toList⟩, hat 0 (by decide), ?_, by simpa using hsl⟩
        rw [← str_eq]
        exact hat 1 (by decide)
    obtain ⟨os, hol, ho⟩ := list_of (min n 8) (fun i hi' => key i (by omega))
    refine ⟨hl, hm', os, hol, ?_⟩
    rcases Nat.eq_zero_or_pos n with h0 | hpos
    · subst h0
      have : os = [] := List.eq_nil_of_length_eq_zero (by omega)
      subst this
      exact ⟨.inl ⟨rfl, _, _, rfl⟩, by simp, by simp⟩
    · have hspot : a.spot = none := by
        have h1 := (ho 0 (by omega)).1
        have e : (a.add (0 * 2)).add 0 = a := by simp [Addr.add]
        rw [e] at h1
        unfold World.cell? at h1
        split at h1
        · cases hsp : a.spot with
          | none => rfl
          | some x => rw [hsp] at h1; simp at h1
        · cases h1
      obtain ⟨b, o, sp⟩ := a
      simp only at hspot
      subst hspot
      have hadd : ∀ o k, (⟨b, o, none⟩ : Addr).add k = ⟨b, o + k, none⟩ := fun o k => by unfold Addr.add; split <;> simp_all
      have hblk : b < W.heap.size := by
        have h1 := (ho 0 (by omega)).1
        rw [hadd, hadd] at h1
        exact block_lt_of_cell h1
      refine ⟨.inr ⟨b, o, c, rfl, hblk, fun i hi' => ?_⟩, by omega, fun x hx => ?_⟩
      · have h1 := ho i (by omega)
        rw [hadd, hadd, hadd] at h1
        exact ⟨by simpa using h1.1, h1.2.1⟩
      · obtain ⟨i, hi1, hi2⟩ := List.getElem_of_mem hx
        have h1 := (ho i (by omega)).2.2
        rw [List.getD_eq_getElem?_getD, List.getElem?_eq_getElem hi1, Option.getD_some, hi2] at h1
        exact h1
end Go.Proofs.YtdlpapchjjbplaaGreatDoor
