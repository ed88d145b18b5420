/-
  An argument that is a packet, opened.
-/
import Derived.Test.YtcdhllajdpalaaaGreatDoorOpenHd
import Derived.Test.YtcdhllajdpalaaaGreatDoorPktC
import Derived.Test.YtcdhllajdpalaaaGreatDoorRefOpN
import Derived.Test.YtcdhllajdpalaaaGreatDoorRows
import Derived.Deep.Slices
import Derived.Deep.Fields
import Derived.ChangeSame
namespace Go.Proofs.YtcdhllajdpalaaaGreatDoor
open Go.ChangeShapes Go.WideShapes Go.Deep Go.RowKit
set_option linter.unusedVariables false
set_option linter.unusedSimpArgs false

theorem list_of {P : Nat → M.Opt → Prop} : ∀ m, (∀ i, i < m → ∃ o, P i o) → ∃ os : List M.Opt, os.length = m ∧ ∀ i, i < m → P i (os.getD i ⟨0, []⟩) := by
  intro m
  induction m with
  | zero => intro _; exact ⟨[], rfl, fun i hi => absurd hi (Nat.not_lt_zero i)⟩
  | succ m ih =>
    intro h
    obtain ⟨os, hl, ho⟩ := ih (fun i hi => h i (by omega))
    obtain ⟨o, hp⟩ := h m (by omega)
    refine ⟨os ++ [o], by simp [hl], fun i hi => ?_⟩
    by_cases e : i < m
    · have := ho i e
      rw [List.getD_eq_getElem?_getD] at this ⊢
      rwa [List.getElem?_append_left (by omega)]
    · obtain rfl : i = m := by omega
      rw [List.getD_eq_getElem?_getD, List.getElem?_append_right (by omega), hl]
      simpa using hp

theorem cell_add {w : World} {base : Nat} {a : Addr} {n : Nat} {cs : List Value} (h : w.cells? base a n = some cs) : cs.length = n ∧ ∀ j, j < n → w.cell? (a.add j) = cs[j]? := by
  obtain ⟨_, hcl, hat⟩ := World.cells?_some h
  exact ⟨hcl, hat⟩

theorem opts_nil0 (W : World) (c : Nat) : OptsAt W (.slice none 0 c) [] := ⟨.inl ⟨rfl, none, c, rfl⟩, by simp, by simp⟩

set_option maxRecDepth 100000 in
theorem open_optsN (N : Nat) (hN0 : 0 < N) (hN : N ≤ 1073741824) {H : Type} {enc : TypeId × Value → H} {W : World} {p : Option Addr} {n c : Nat} {d : DataW H} {q : List MemPlace}
    (h : DataW.Trod enc Tryz.prog W 0 (fun _ => true) true 38 (.slice p n c) d q) : n ≤ c ∧ c ≤ 9223372036854775807 ∧ ∃ os : List M.Opt, os.length = min n N ∧ OptsAt W (.slice p os.length c) os := by
  obtain ⟨fuel, hf⟩ := h
  rcases open_slice Tryz.underlying38 hf with ⟨hcs, hx⟩ | ⟨a, len, cap, m, n', D, Pl, hcs, hb, hl, hm, hmm, hx, hi⟩
  · simp [Value.cells] at hcs
    obtain ⟨rfl, rfl, rfl⟩ := hcs
    exact ⟨by omega, by omega, [], by simp, opts_nil0 W 0⟩
  · simp [Value.cells] at hcs
    obtain ⟨rfl, rfl, rfl⟩ := hcs
    have hm' : c ≤ 9223372036854775807 := hm
    simp only [if_true] at hmm
    have hC : Tryz.prog.cellsOf 53 = 2 := by kernel_rfl
    rw [hC] at hi
    have key : ∀ i, i < m → ∃ o : M.Opt, W.cell? ((a.add (i * 2)).add 0) = some (.int .i64 o.t) ∧ W.cell? ((a.add (i * 2)).add 1) = some (.string (str o.d)) ∧ o.d.length ≤ maxLen := by
      intro i him
      obtain ⟨cs', hc, ht'⟩ := hi i him
      obtain ⟨hcl, hat⟩ := cell_add hc
      obtain ⟨ys, n2, hn2, hy, hlen, hyl, hff⟩ := DataW.trod_struct Tryz.underlying53 ht'
      match cs', hcl with
      | [x0, x1], _ =>
        have h0 := hff 0 _ rfl
        have h1 := hff 1 _ rfl
        have e0 : ys[0]? = some (ys[0]'(by rw [hyl]; decide)) := List.getElem?_eq_getElem _
        have e1 : ys[1]? = some (ys[1]'(by rw [hyl]; decide)) := List.getElem?_eq_getElem _
        rw [e0] at h0
        rw [e1] at h1
        have k0 : DataW.trod enc Tryz.prog W 0 (fun _ => true) true n2 3 [x0] = some (ys[0]'(by rw [hyl]; decide)) := h0
        have k1 : DataW.trod enc Tryz.prog W 0 (fun _ => true) true n2 9 [x1] = some (ys[1]'(by rw [hyl]; decide)) := h1
        obtain ⟨z, hz, _, _⟩ := DataW.trod_int Tryz.underlying3 k0
        obtain ⟨s, hs, _, hsl⟩ := DataW.trod_string Tryz.underlying9 k1
        simp at hz hs
        subst hz hs
        refine ⟨⟨z, s.data.toList⟩, hat 0 (by decide), ?_, by simpa using hsl⟩
        rw [← str_eq]
        exact hat 1 (by decide)
    obtain ⟨os, hol, ho⟩ := list_of (min n N) (fun i hi' => key i (by omega))
    refine ⟨hl, hm', os, hol, ?_⟩
    rcases Nat.eq_zero_or_pos n with h0 | hpos
    · subst h0
      have : os = [] := List.eq_nil_of_length_eq_zero (by omega)
      subst this
      exact ⟨.inl ⟨rfl, _, _, rfl⟩, by simp, by simp⟩
    · have hspot : a.spot = none := by
        have h1 := (ho 0 (by omega)).1
        have e : (a.add (0 * 2)).add 0 = a := by simp [Addr.add]
        rw [e] at h1
        unfold World.cell? at h1
        split at h1
        · cases hsp : a.spot with
          | none => rfl
          | some x => rw [hsp] at h1; simp at h1
        · cases h1
      obtain ⟨b, o, sp⟩ := a
      simp only at hspot
      subst hspot
      have hadd : ∀ o k, (⟨b, o, none⟩ : Addr).add k = ⟨b, o + k, none⟩ := fun o k => by unfold Addr.add; split <;> simp_all
      have hblk : b < W.heap.size := by
        have h1 := (ho 0 (by omega)).1
        rw [hadd, hadd] at h1
        exact block_lt_of_cell h1
      refine ⟨.inr ⟨b, o, c, rfl, hblk, fun i hi' => ?_⟩, by omega, fun x hx => ?_⟩
      · have h1 := ho i (by omega)
        rw [hadd, hadd, hadd] at h1
        exact ⟨by simpa using h1.1, h1.2.1⟩
      · obtain ⟨i, hi1, hi2⟩ := List.getElem_of_mem hx
        have h1 := (ho i (by omega)).2.2
        rw [List.getD_eq_getElem?_getD, List.getElem?_eq_getElem hi1, Option.getD_some, hi2] at h1
        exact h1

/-- How much of it there is. -/
theorem bulk_one {H : Type} (d : DataW H) : 1 ≤ Rows.uptoBulk d := by
  cases d with
  | lit l => cases l <;> simp [Rows.uptoBulk]
  | _ => simp [Rows.uptoBulk]
theorem bulk_mem {H : Type} {d : DataW H} : ∀ {l : List (DataW H)}, d ∈ l → Rows.uptoBulk d ≤ Rows.uptoBulkAll l
  | [], h => by cases h
  | x :: l, h => by
    have e : Rows.uptoBulkAll (x :: l) = Rows.uptoBulk x + Rows.uptoBulkAll l := by simp only [Rows.uptoBulkAll]
    rcases List.mem_cons.1 h with rfl | h
    · omega
    · have := bulk_mem h; omega
theorem bulk_len {H : Type} : ∀ l : List (DataW H), l.length ≤ Rows.uptoBulkAll l
  | [] => by simp
  | x :: l => by
    have e : Rows.uptoBulkAll (x :: l) = Rows.uptoBulk x + Rows.uptoBulkAll l := by simp only [Rows.uptoBulkAll]
    have := bulk_len l
    have := bulk_one x
    rw [List.length_cons]; omega
set_option maxRecDepth 100000 in
set_option maxHeartbeats 2000000 in
theorem open_pkt {H : Type} {enc : TypeId × Value → H} {W : World} {r : Reach} {b0 : Nat} {v : Value} {d : DataW H} {q : List MemPlace}
    (hv : Value.okWide Tryz.prog W r b0 40 v) (h : DataW.Trod enc Tryz.prog W 0 (fun _ => true) true 40 v d q) (hbk : Rows.uptoBulk d ≤ 1048576) :
    ∃ (g : Hd) (va : Option Addr) (vc : Nat) (os : List M.Opt) (l : List UInt8), v = Pv g (.slice va os.length vc) (str l) ∧ g.ok ∧ g.fits ∧ OptsAt W (.slice va os.length vc) os ∧ os.length ≤ 1048576 ∧ l.length ≤ 1048576 := by
  obtain ⟨cs, rfl, hsz⟩ := okWide_struct Tryz.underlying40 hv
  obtain ⟨fuel, hf⟩ := h
  have hf' : DataW.trod enc Tryz.prog W 0 (fun _ => true) true fuel 40 cs.toList = some (d, q) := hf
  obtain ⟨ys, n, hn, hx, hlen, hyl, hff⟩ := DataW.trod_struct Tryz.underlying40 hf'
  have hC : Tryz.prog.cellsOf 40 = 17 := by kernel_rfl
  rw [hC] at hlen
  have hy : ys.length = 3 := hyl
  have hd1 : d = .agg (ys.map (·.1)) := congrArg Prod.fst hx
  have hbk2 : Rows.uptoBulkAll (ys.map (·.1)) + 1 ≤ 1048576 := by
    rw [hd1] at hbk
    simpa [Rows.uptoBulk] using hbk
  obtain ⟨L, hL⟩ : ∃ L, cs.toList = L := ⟨_, rfl⟩
  rw [hL] at hlen hff
  match L, hlen, hL with
  | [c0, c1, c2, c3, c4, c5, c6, c7, c8, c9, c10, c11, c12, c13, c14, c15, c16], _, hL =>
    obtain ⟨y0, y1, y2, rfl⟩ : ∃ y0 y1 y2, ys = [y0, y1, y2] := by
      match ys, hy with
      | [y0, y1, y2], _ => exact ⟨y0, y1, y2, rfl⟩
    · have f0 : DataW.trod enc Tryz.prog W 0 (fun _ => true) true n 26 [c0, c1, c2, c3, c4, c5, c6, c7, c8, c9, c10, c11, c12, c13, c14] = some y0 := hff 0 _ rfl
      have f1 : DataW.trod enc Tryz.prog W 0 (fun _ => true) true n 38 [c15] = some y1 := hff 1 _ rfl
      have f2 : DataW.trod enc Tryz.prog W 0 (fun _ => true) true n 9 [c16] = some y2 := hff 2 _ rfl
      obtain ⟨g, hg, h1, h2⟩ := open_cells f0
      obtain ⟨s, hs, hsd, hsl⟩ := DataW.trod_string Tryz.underlying9 f2
      have hb1 : Rows.uptoBulk y1.1 ≤ 1048576 := by have := bulk_mem (d := y1.1) (l := [y0, y1, y2].map (·.1)) (by simp); omega
      have hb2 : Rows.uptoBulk y2.1 ≤ 1048576 := by have := bulk_mem (d := y2.1) (l := [y0, y1, y2].map (·.1)) (by simp); omega
      have hsz2 : s.data.toList.length ≤ 1048576 := by
        rw [hsd] at hb2
        have : s.data.toList.length + 1 ≤ 1048576 := by simpa [Rows.uptoBulk] using hb2
        omega
      have key : ∃ va m vc, c15 = .slice va m vc ∧ m ≤ 1048576 := by
        rcases open_slice Tryz.underlying38 f1 with ⟨hcs, _⟩ | ⟨a, len, cap, m, n', D, Pl, hcs, _, _, _, _, hx2, _⟩
        · simp at hcs; exact ⟨none, 0, 0, hcs, by omega⟩
        · simp at hcs
          refine ⟨some a, len, cap, hcs, ?_⟩
          have e : y1.1 = .slice ((List.range len).map D) ((List.range (m - len)).map fun j => D (len + j)) := congrArg Prod.fst hx2
          rw [e] at hb1
          have h3 := bulk_len ((List.range len).map D)
          have h4 : Rows.uptoBulk (.slice ((List.range len).map D) ((List.range (m - len)).map fun j => D (len + j)) : DataW H) = Rows.uptoBulkAll ((List.range len).map D) + Rows.uptoBulkAll ((List.range (m - len)).map fun j => D (len + j)) + 1 := by simp only [Rows.uptoBulk]
          rw [h4] at hb1
          rw [List.length_map, List.length_range] at h3
          omega
      obtain ⟨va, m, vc, rfl, hm⟩ := key
      obtain ⟨k1, k2, os, k3, k4⟩ := open_optsN 1048576 (by decide) (by decide) (p := va) (n := m) (c := vc) (d := y1.1) (q := y1.2) ⟨n, f1⟩
      have hom : os.length = m := by omega
      simp at hs
      refine ⟨g, va, vc, os, s.data.toList, ?_, h1, h2, k4, by omega, hsz2⟩
      rw [← str_eq, hom]
      have e : cs = pkCells g (.slice va m vc) s := by
        rw [← Array.toList_inj, hL, hs]
        have hg2 : [c0, c1, c2, c3, c4, c5, c6, c7, c8, c9, c10, c11, c12, c13, c14] = g.cellsA.toList := hg
        show [c0, c1, c2, c3, c4, c5, c6, c7, c8, c9, c10, c11, c12, c13, c14] ++ [.slice va m vc, .string s] = _
        rw [hg2]; rfl
      rw [e]; rfl
end Go.Proofs.YtcdhllajdpalaaaGreatDoor
