/-
  Package sent: records in memory; New, Last, Put.
  Package sent: Put.
  Package sent: what a Hear takes.
  Package sent: how many are out.
-/
import Derived.Test.YtnhlachoimlhhaaGreatDoorSetM
import Derived.Test.YtnhlachoimlhhaaGreatDoorSeqA
import Derived.Deep.RegionLaw
import Derived.Deep.AppendLies
import Derived.Shelf.RegionOpen
import Derived.Shelf.RegionOpenPlain
import Derived.Test.YtnhlachoimlhhaaGreatDoorGtM
namespace Go.Proofs.YtnhlachoimlhhaaGreatDoor
open Go.ChangeShapes Go.WideShapes Go.ChangeAt Go.RowKit
set_option linter.unusedVariables false
set_option linter.unusedSimpArgs false

/-- A number, when it was sent, and what came of it. -/
abbrev Rec := Nat × Int × Int
def recCells (r : Rec) : Array Value := #[.int .u64 r.1, .int .i64 r.2.1, .int .i64 r.2.2]
def recList (l : List Rec) : List Value := l.flatMap fun r => [.int .u64 r.1, .int .i64 r.2.1, .int .i64 r.2.2]
theorem recList_app (l m : List Rec) : recList (l ++ m) = recList l ++ recList m := List.flatMap_append
theorem recList_len (l : List Rec) : (recList l).length = l.length * 3 := by
  induction l with
  | nil => rfl
  | cons c l ih => simp only [recList, List.flatMap_cons, List.length_append, List.length_cons, List.length_nil] at *; omega
theorem recList_get (l : List Rec) (i : Nat) (h : i < l.length) : (recList l)[i * 3]? = some (.int .u64 (l.getD i (0, 0, 0)).1) ∧ (recList l)[i * 3 + 1]? = some (.int .i64 (l.getD i (0, 0, 0)).2.1) ∧ (recList l)[i * 3 + 2]? = some (.int .i64 (l.getD i (0, 0, 0)).2.2) := by
  induction l generalizing i with
  | nil => simp at h
  | cons c l ih =>
    cases i with
    | zero => exact ⟨rfl, rfl, rfl⟩
    | succ i =>
      have := ih i (by simpa using h)
      have e : recList (c :: l) = [.int .u64 c.1, .int .i64 c.2.1, .int .i64 c.2.2] ++ recList l := rfl
      rw [e, List.getElem?_append_right (by simp; omega), List.getElem?_append_right (by simp; omega), List.getElem?_append_right (by simp; omega)]
      have e1 : (i + 1) * 3 - [Value.int .u64 c.1, .int .i64 c.2.1, .int .i64 c.2.2].length = i * 3 := by simp; omega
      have e2 : (i + 1) * 3 + 1 - [Value.int .u64 c.1, .int .i64 c.2.1, .int .i64 c.2.2].length = i * 3 + 1 := by simp; omega
      have e3 : (i + 1) * 3 + 2 - [Value.int .u64 c.1, .int .i64 c.2.1, .int .i64 c.2.2].length = i * 3 + 2 := by simp; omega
      rw [e1, e2, e3]
      simpa using this
theorem infoRec : (Tryz.prog.info? 218).map (fun i => (i.zero, i.size, i.bytes)) = some (some (.agg #[.int .u64 0, .int .i64 0, .int .i64 0]), 3, 24) := by kernel_rfl
/-- A row of records that lies at its block's head. -/
def RecRow (l : List Rec) (v : Value) (w : World) : Prop := w.ownsRow 0 218 3 v l.length (recList l)
theorem RecRow.kept {l : List Rec} {v : Value} {S : List Nat} {w w' : World} (h : RecRow l v w) (k : Kept S w w') (hn : ∀ g, v.ownBlock = some g → g ∉ S) : RecRow l v w' := by
  refine ⟨h.1, ?_⟩
  rcases h.2 with hv | ⟨g, cap, cur, rfl, hb, hg, rest⟩
  · exact .inl hv
  · exact .inr ⟨g, cap, cur, rfl, hb, (k.block g (Array.getElem?_eq_some_iff.1 hg).1 (hn g rfl)).trans hg, rest⟩
theorem RecRow.shape {l : List Rec} {v : Value} {w : World} (h : RecRow l v w) (hl : 0 < l.length) : ∃ g c, v = .slice (some ⟨g, 0, none⟩) l.length c ∧ l.length ≤ c ∧ c ≤ 9223372036854775807 ∧ g < w.heap.size ∧
    (∀ i, i < l.length → w.cell? ⟨g, i * 3, none⟩ = some (.int .u64 (l.getD i (0, 0, 0)).1) ∧ w.cell? ⟨g, i * 3 + 1, none⟩ = some (.int .i64 (l.getD i (0, 0, 0)).2.1) ∧ w.cell? ⟨g, i * 3 + 2, none⟩ = some (.int .i64 (l.getD i (0, 0, 0)).2.2)) ∧ (∀ i, w.frozen? ⟨g, i, none⟩ = false) ∧ ∃ cur, w.heap[g]? = some (.cells cur 218 (0, 0)) := by
  rcases h.2 with ⟨rfl, h0⟩ | ⟨g, cap, cur, rfl, hB, hg, hcap, hcm, _, ht⟩
  · omega
  · have hlt : g < w.heap.size := (Array.getElem?_eq_some_iff.1 hg).1
    have key : ∀ j u, j < l.length * 3 → (recList l)[j]? = some u → w.cell? ⟨g, j, none⟩ = some u := by
      intro j u hj hu
      rw [cell_of_row w g j cur _ _ hg, ← Array.getElem?_toList]
      rw [← ht, List.getElem?_take_of_lt hj] at hu
      exact hu
    refine ⟨g, cap, rfl, hcap, by unfold maxLen at hcm; omega, hlt, fun i hi => ?_, fun i => frozen_of_row w g i _ _ hg, cur, hg⟩
    obtain ⟨a, b, c⟩ := recList_get l i hi
    exact ⟨key (i * 3) _ (by omega) a, key (i * 3 + 1) _ (by omega) b, key (i * 3 + 2) _ (by omega) c⟩
/-- What was sent at block C, its row's value v. -/
structure SentAt (l : List Rec) (C : Nat) (v : Value) (w : World) : Prop where
  blk : BlkIs #[v] 202 C w
  row : RecRow l v w
  ne : ∀ g, v.ownBlock = some g → g ≠ C
theorem SentAt.kept {l : List Rec} {C : Nat} {v : Value} {S : List Nat} {w w' : World} (h : SentAt l C v w) (k : Kept S w w') (h1 : C ∉ S) (h2 : ∀ g, v.ownBlock = some g → g ∉ S) : SentAt l C v w' := ⟨h.blk.kept k h1, h.row.kept k h2, h.ne⟩
theorem SentAt.below {l : List Rec} {C : Nat} {v : Value} {w w' : World} (h : SentAt l C v w) (k : Below w.heap.size w w') : SentAt l C v w' := h.kept (Kept.of_below [] k) (by simp) (by simp)
theorem sentNew_any (w : World) : Calls Tryz.prog 130 #[] w fun e w' => ∃ C, e = .returned (.pointer (some ⟨C, 0, none⟩)) ∧ SentAt [] C (.slice none 0 0) w' ∧ w.heap.size ≤ C ∧ Below w.heap.size w w' := by
  go_enter Tryz.func130, Tryz.ntmps130
  go_wp2
  go_ret
  exact ⟨_, rfl, ⟨BlkIs.new _ _ _, World.ownsRow_nil _ _ _ _, fun g hg => by cases hg⟩, Nat.le_refl _, bel_alloc _ _⟩
theorem sentLast_none (C : Nat) (w : World) (h : SentAt [] C (.slice none 0 0) w) :
    Calls Tryz.prog 193 #[.pointer (some ⟨C, 0, none⟩)] w fun e w' => e = .returned (.tuple #[.int .u64 0, .bool false]) ∧ w' = w := by
  have a0 : w.cell? ⟨C, 0, none⟩ = some (.slice none 0 0) := h.blk.cell 0
  clear h
  go_enter Tryz.func193, Tryz.ntmps193
  go_wp2
  go_ret2
  exact ⟨rfl, rfl⟩
theorem sentLast_some (l : List Rec) (m : Nat) (hm : l.length = m + 1) (hm2 : m ≤ 1000) (C : Nat) (v : Value) (w : World) (h : SentAt l C v w) :
    Calls Tryz.prog 193 #[.pointer (some ⟨C, 0, none⟩)] w fun e w' => e = .returned (.tuple #[.int .u64 (l.getD m (0, 0, 0)).1, .bool true]) ∧ ∃ k, w' = w.drewN k := by
  obtain ⟨g, c, rfl, hc1, hc2, hg, hcell, _, _⟩ := h.row.shape (by omega)
  have a0 : w.cell? ⟨C, 0, none⟩ = some (.slice (some ⟨g, 0, none⟩) l.length c) := h.blk.cell 0
  have a1 := (hcell m (by omega)).1
  rw [hm] at a0 hc1
  have i1 : ((m + 1 : Nat) : Int) - 1 = (m : Int) := by omega
  clear h hcell
  generalize l.getD m (0, 0, 0) = r at *
  obtain ⟨x, t, st⟩ := r
  simp only at a1 ⊢
  go_enter Tryz.func193, Tryz.ntmps193
  go_wp2
  go_quiet (fail)
  go_wp2
  go_ret2
  exact ⟨rfl, _, rfl⟩
end Go.Proofs.YtnhlachoimlhhaaGreatDoor

namespace Go.Proofs.YtnhlachoimlhhaaGreatDoor
open Go.ChangeShapes Go.WideShapes Go.ChangeAt Go.RowKit
set_option linter.unusedVariables false
set_option linter.unusedSimpArgs false

theorem sentMay_first (n : Nat) (C : Nat) (w : World) (h : SentAt [] C (.slice none 0 0) w) :
    Calls Tryz.prog 165 #[.pointer (some ⟨C, 0, none⟩), .int .u64 n] w fun e w' => e = .returned (.bool true) ∧ w' = w := by
  have HL := Lib.hid (sentLast_none C w h)
  clear h
  go_enter Tryz.func165, Tryz.ntmps165
  go_wp2_with (go_at_call 193; (with_reducible refine HL.out.mono ?_); rintro e w1 ⟨rfl, rfl⟩)
  go_ret
  exact ⟨rfl, rfl⟩
theorem sentMay_next (l : List Rec) (m : Nat) (hm : l.length = m + 1) (hm2 : m ≤ 1000) (n x : Nat) (hx : (l.getD m (0, 0, 0)).1 = x) (hless : ∀ W, Calls Tryz.prog 118 #[.int .u64 x, .int .u64 n] W fun e w' => e = .returned (.bool true) ∧ W = w') (C : Nat) (v : Value) (w : World) (h : SentAt l C v w) :
    Calls Tryz.prog 165 #[.pointer (some ⟨C, 0, none⟩), .int .u64 n] w fun e w' => e = .returned (.bool true) ∧ ∃ k, w' = w.drewN k := by
  have HL := Lib.hid (sentLast_some l m hm hm2 C v w h)
  have HS := Lib.hid hless
  rw [hx] at HL
  clear h hless hm hx
  go_enter Tryz.func165, Tryz.ntmps165
  go_wp2_with (first
    | (go_at_call 193; (with_reducible refine HL.out.mono ?_); rintro e w1 ⟨rfl, k, rfl⟩)
    | (go_at_call 118; (with_reducible refine (HS.out _).mono ?_); rintro e w2 ⟨rfl, rfl⟩))
  go_ret
  exact ⟨rfl, _, rfl⟩
theorem sentRoom_any (l : List Rec) (hl : l.length < 200) (C : Nat) (v : Value) (w : World) (h : SentAt l C v w) :
    Calls Tryz.prog 166 #[.pointer (some ⟨C, 0, none⟩)] w fun e w' => e = .returned (.bool true) ∧ w' = w := by
  have a0 : w.cell? ⟨C, 0, none⟩ = some v := h.blk.cell 0
  rcases Nat.eq_zero_or_pos l.length with h0 | h0
  · rcases h.row.2 with ⟨rfl, _⟩ | ⟨g, cap, cur, rfl, _⟩
    all_goals
      try rw [h0] at a0
      clear h
      go_enter Tryz.func166, Tryz.ntmps166
      go_wp2
      go_ret
      exact ⟨rfl, rfl⟩
  · obtain ⟨g, c, rfl, _⟩ := h.row.shape h0
    have hli : (l.length : Int) < 200 := by omega
    clear h
    generalize l.length = N at *
    go_enter Tryz.func166, Tryz.ntmps166
    go_wp2
    go_ret
    exact ⟨rfl, rfl⟩
set_option maxHeartbeats 1000000 in
theorem sentPut_any (l : List Rec) (hl : l.length < 200) (n : Nat) (hn : n < 281474976710656) (t : Int) (ht : 0 ≤ t) (ht2 : t ≤ 4611686018427387904) (C : Nat) (v : Value) (w : World) (h : SentAt l C v w)
    (hmay : Calls Tryz.prog 165 #[.pointer (some ⟨C, 0, none⟩), .int .u64 n] w fun e w' => e = .returned (.bool true) ∧ ∃ k, w' = w.drewN k) :
    Calls Tryz.prog 134 #[.pointer (some ⟨C, 0, none⟩), .int .u64 n, .int .i64 t] w fun e w' => ∃ g c, e = .returned (.bool true) ∧ SentAt (l ++ [(n, t, 0)]) C (.slice (some ⟨g, 0, none⟩) (l.length + 1) c) w' ∧ Kept (C :: own v) w w' ∧ (v.ownBlock = some g ∨ w.heap.size ≤ g) := by
  have HM := Lib.hid hmay
  have HR := Lib.hid (fun k => sentRoom_any l hl C v (w.drewN k) (h.below (bel_drewN w k)))
  obtain ⟨B, hB⟩ : ∃ B, w.heap.size = B := ⟨_, rfl⟩
  have HO : Hid (∀ W, Calls Tryz.prog 82 #[.int .u64 n] W fun e w' => e = .returned (.int .u64 n) ∧ W = w') := Lib.hid (fun W => by
    have := seqOf_any n (by omega) W
    rw [show ((n : Int) % 281474976710656) = (n : Int) by omega] at this
    exact this)
  have a0 : w.cell? ⟨C, 0, none⟩ = some v := h.blk.cell 0
  have f0 := h.blk.free 0
  have n0 : ∀ j o, ((w.drewN j).alloc o).cell? ⟨C, 0, none⟩ = some v := fun j o => ((h.blk.drewN j).alloc o).cell 0
  obtain ⟨i0, hi, hz0, hz1, hz2⟩ := info_parts infoRec
  have i1 : min t 4611686018427387904 = t := by omega
  have i2 : (if (4611686018427387904 : Int) < t then (4611686018427387904 : Int) else t) = t := if_neg (by omega)
  have i3 : ¬ t < 0 := by omega
  have H := Lib.hid h
  have HL := Lib.hid (recList_app l [(n, t, 0)])
  have HN := Lib.hid hl
  clear h hmay
  go_enter Tryz.func134, Tryz.ntmps134
  go_upto_region 3 with (first
    | (go_at_call 165; (with_reducible refine HM.out.mono ?_); rintro e w1 ⟨rfl, k, rfl⟩)
    | (go_at_call 166; (with_reducible refine (HR.out _).mono ?_); rintro e w1 ⟨rfl, rfl⟩))
  have HRT : Hid (∀ j, RecRow l v ((w.drewN j).alloc (.cells #[.int .u64 n, .int .i64 t, .int .i64 0] 218))) := Lib.hid (fun j => H.out.row.kept (((Kept.refl [] w).drewN j).alloc _) (by simp))
  have HNW : Hid (∀ j, ∀ i u, (recCells (n, t, 0)).toList[i]? = some u → ((w.drewN j).alloc (.cells #[.int .u64 n, .int .i64 t, .int .i64 0] 218)).cell? ((⟨B, 0, none⟩ : Addr).add i) = some u) := Lib.hid (fun j => World.news_of_block (fr := (0, 0)) (t := 218) (by
    have := BlkIs.new (recCells (n, t, 0)) 218 (w.drewN j)
    rw [show (w.drewN j).heap.size = B from hB] at this
    exact this))
  have HBK : Hid (∀ j, BlkIs #[v] 202 C ((w.drewN j).alloc (.cells #[.int .u64 n, .int .i64 t, .int .i64 0] 218))) := Lib.hid (fun j => (H.out.blk.drewN j).alloc _)
  have HKE : Hid (∀ j, Kept (C :: own v) w ((w.drewN j).alloc (.cells #[.int .u64 n, .int .i64 t, .int .i64 0] 218))) := Lib.hid (fun j => ((Kept.refl _ w).drewN j).alloc _)
  have HNE : Hid (some C ≠ v.ownBlock) := Lib.hid (fun e => H.out.ne C e.symm rfl)
  go_region_law (first
    | (go_simp; go_at_call 82; (with_reducible refine (HO.out _).mono ?_); rintro e w5 ⟨rfl, rfl⟩)
    | (refine step_append_lies _ rfl (.tmp 28) (.tmp 34) 200 rfl 0 218 i0 (.agg #[.int .u64 0, .int .i64 0, .int .i64 0]) 3 24 Tryz.underlying200 hi hz0 hz1 hz2 rfl (by decide) v l.length (recList l) (by simp [Act.eval, Act.put]) (HRT.out _) ⟨B, 0, none⟩ 1 1 (recCells (n, t, 0)).toList (by simp [Act.eval, Act.put]) rfl (HNW.out _) (by intro u hu; simp [recCells] at hu; rcases hu with rfl | rfl | rfl <;> rfl) (by decide) (by unfold maxLen; omega) (by omega) (Nat.zero_le _) _ rfl ?_; intro g2 cap2 w1 hown hgrow hat hlt; have hb1 := BlkIs.grown (HBK.out _) hgrow HNE.out; have hk1 := (HKE.out _).grown hgrow (fun q hq => .inl (by simp [own, hq])); have a1 : w1.cell? ⟨C, 0, none⟩ = some v := BlkIs.cell hb1 0; have f1 := BlkIs.free hb1 0))
  all_goals
    go_wp2
    go_ret
    have hCw := H.out.blk.lt
    have hgC : g2 ≠ C := by
      rcases hat with h1 | h1
      · exact H.out.ne g2 h1
      · have h2 := HKE.out (k + 1)
        have h3 := h2.size
        omega
    have hr1 : RecRow (l ++ [(n, t, 0)]) (.slice (some ⟨g2, 0, none⟩) (l.length + 1) cap2) w1 := by
      unfold RecRow
      rw [HL.out, List.length_append]
      exact hown
    refine ⟨g2, cap2, rfl, ⟨hb1.set 0 _, hr1.kept ((Kept.refl [C] w1).setCell (.inl (by simp)) _) (fun g hg => ?_), fun g hg => ?_⟩, hk1.setCell (.inl (by simp)) _, ?_⟩
    · have : g2 = g := by simpa [Value.ownBlock] using hg
      simp; omega
    · have : g2 = g := by simpa [Value.ownBlock] using hg
      omega
    · rcases hat with h1 | h1
      · exact .inl h1
      · have h3 := (HKE.out (k + 1)).size
        right; omega
end Go.Proofs.YtnhlachoimlhhaaGreatDoor

namespace Go.Proofs.YtnhlachoimlhhaaGreatDoor
open Go.ChangeShapes Go.WideShapes Go.ChangeAt Go.RowKit
set_option linter.unusedVariables false
set_option linter.unusedSimpArgs false

/-- Records, cell by cell: what was sent at C, the row at g. -/
structure RecsAt (l : List Rec) (C g c : Nat) (w : World) : Prop where
  blk : BlkIs #[.slice (some ⟨g, 0, none⟩) l.length c] 202 C w
  row : ∀ i r, l[i]? = some r → w.cell? ⟨g, i * 3, none⟩ = some (.int .u64 r.1) ∧ w.cell? ⟨g, i * 3 + 1, none⟩ = some (.int .i64 r.2.1) ∧ w.cell? ⟨g, i * 3 + 2, none⟩ = some (.int .i64 r.2.2)
  free : ∀ i, w.frozen? ⟨g, i, none⟩ = false
  lt : g < w.heap.size
  ne : g ≠ C
  cap1 : l.length ≤ c
  cap2 : c ≤ 9223372036854775807
  typ : ∃ cur, BlkIs cur 218 g w ∧ cur.size = c * 3
theorem SentAt.recs {l : List Rec} {C g c : Nat} {w : World} (h : SentAt l C (.slice (some ⟨g, 0, none⟩) l.length c) w) (hl : 0 < l.length) : RecsAt l C g c w := by
  obtain ⟨g', c', e, h1, h2, h3, h4, h5, _⟩ := h.row.shape hl
  injection e with e1 e2 e3
  injection e1 with e1
  injection e1 with e1
  subst e1 e3
  refine ⟨h.blk, fun i r hr => ?_, h5, h3, h.ne _ rfl, h1, h2, ?_⟩
  rotate_left
  · rcases h.row.2 with ⟨e9, _⟩ | ⟨g9, cap9, cur, e9, _, hg9, _, _, hs9, _⟩
    · cases e9
    · injection e9 with e1 e2 e3
      injection e1 with e1
      injection e1 with e1
      subst e1 e3
      exact ⟨cur, hg9, hs9⟩
  have hi : i < l.length := (List.getElem?_eq_some_iff.1 hr).1
  have := h4 i hi
  rw [List.getD_eq_getElem?_getD, hr] at this
  exact this
theorem RecsAt.kept {l : List Rec} {C g c : Nat} {S : List Nat} {w w' : World} (h : RecsAt l C g c w) (k : Kept S w w') (h1 : C ∉ S) (h2 : g ∉ S) : RecsAt l C g c w' :=
  ⟨h.blk.kept k h1, fun i r hr => ⟨(k.cell h.lt h2).trans (h.row i r hr).1, (k.cell h.lt h2).trans (h.row i r hr).2.1, (k.cell h.lt h2).trans (h.row i r hr).2.2⟩, fun i => (k.frozen (p := ⟨g, i, none⟩) h.lt h2).trans (h.free i), Nat.lt_of_lt_of_le h.lt k.size, h.ne, h.cap1, h.cap2, by obtain ⟨cur, t1, t2⟩ := h.typ; exact ⟨cur, t1.kept k h2, t2⟩⟩
theorem RecsAt.below {l : List Rec} {C g c : Nat} {w w' : World} (h : RecsAt l C g c w) (k : Below w.heap.size w w') : RecsAt l C g c w' := h.kept (Kept.of_below [] k) (by simp) (by simp)
/-- The state of a record is written. -/
theorem RecsAt.setSt {l : List Rec} {C g c : Nat} {w : World} (h : RecsAt l C g c w) (k n : Nat) (t st v : Int) (hk : l[k]? = some (n, t, st)) : RecsAt (l.set k (n, t, v)) C g c (w.setCell ⟨g, k * 3 + 2, none⟩ (.int .i64 v)) := by
  have hkl : k < l.length := (List.getElem?_eq_some_iff.1 hk).1
  refine ⟨?_, fun i r hr => ?_, fun i => ?_, ?_, h.ne, ?_, h.cap2, ?_⟩
  · rw [List.length_set]; exact h.blk.far (fun e => h.ne e.symm) _
  · rw [List.getElem?_set] at hr
    by_cases e : k = i
    · rw [if_pos e, if_pos hkl] at hr
      cases hr
      subst e
      obtain ⟨a, b, d⟩ := h.row k _ hk
      exact ⟨(World.cell?_setCell_other _ _ _ _ (fun h2 => by have := congrArg Addr.off h2; simp at this)).trans a, (World.cell?_setCell_other _ _ _ _ (fun h2 => by have := congrArg Addr.off h2; simp at this)).trans b, World.cell?_setCell_same _ _ _ d⟩
    · rw [if_neg e] at hr
      obtain ⟨a, b, d⟩ := h.row i _ hr
      exact ⟨(World.cell?_setCell_other _ _ _ _ (fun h2 => by have := congrArg Addr.off h2; simp at this; omega)).trans a, (World.cell?_setCell_other _ _ _ _ (fun h2 => by have := congrArg Addr.off h2; simp at this; omega)).trans b, (World.cell?_setCell_other _ _ _ _ (fun h2 => by have := congrArg Addr.off h2; simp at this; omega)).trans d⟩
  · rw [World.frozen?_setCell]; exact h.free i
  · simpa using h.lt
  · rw [List.length_set]; exact h.cap1
  · obtain ⟨cur, t1, t2⟩ := h.typ
    exact ⟨_, t1.set (k * 3 + 2) (.int .i64 v), by rw [Array.size_setIfInBounds]; exact t2⟩
/-- Known cell by cell, it lies as its own row. -/
theorem RecsAt.sent {l : List Rec} {C g c : Nat} {w : World} (h : RecsAt l C g c w) : SentAt l C (.slice (some ⟨g, 0, none⟩) l.length c) w := by
  obtain ⟨cur, t1, t2⟩ := h.typ
  refine ⟨h.blk, ⟨recList_len l, .inr ⟨g, c, cur, rfl, Nat.zero_le _, t1, h.cap1, h.cap2, t2, ?_⟩⟩, fun g' e => ?_⟩
  · have hc := h.cap1
    refine List.ext_getElem? fun j => ?_
    by_cases hj : j < l.length * 3
    · obtain ⟨i, r, hi, hr, rfl⟩ : ∃ i r, i < l.length ∧ r < 3 ∧ j = i * 3 + r := ⟨j / 3, j % 3, by omega, by omega, by omega⟩
      rw [List.getElem?_take_of_lt hj, Array.getElem?_toList]
      obtain ⟨a, b, d⟩ := h.row i _ (List.getElem?_eq_getElem hi)
      obtain ⟨a2, b2, d2⟩ := recList_get l i hi
      rw [List.getD_eq_getElem?_getD, List.getElem?_eq_getElem hi] at a2 b2 d2
      rw [cell_of_row w g _ cur _ _ t1] at a b d
      rcases (show r = 0 ∨ r = 1 ∨ r = 2 by omega) with rfl | rfl | rfl
      · exact a.trans a2.symm
      · exact b.trans b2.symm
      · exact d.trans d2.symm
    · rw [List.getElem?_eq_none (show (recList l).length ≤ j by rw [recList_len]; omega), List.getElem?_eq_none (by simp; omega)]
  · have e1 : g = g' := by simpa [Value.ownBlock] using e
    subst e1
    exact h.ne
def heardCells (vG : Value) (marks rtt : Int) : Array Value := #[vG, .slice none 0 0, .slice none 0 0, .int .i64 marks, .int .i64 rtt]
/-- What a Hear has gathered so far, at block H. -/
structure HeardAt (gs : List Nat) (vG : Value) (marks rtt : Int) (H : Nat) (w : World) : Prop where
  blk : BlkIs (heardCells vG marks rtt) 86 H w
  row : w.ownsRow 0 55 1 vG gs.length (gs.map fun n : Nat => Value.int .u64 (n : Int))
  ne : ∀ q, vG.ownBlock = some q → q ≠ H
theorem sentSince_any (t now : Int) (h0 : 0 ≤ t) (h1 : t ≤ now) (h2 : now ≤ 4611686018427387904) (w : World) :
    Calls Tryz.prog 196 #[.int .i64 t, .int .i64 now] w fun e w' => e = .returned (.int .i64 (now - t)) ∧ w' = w := by
  have i1 : max now 0 = now := by omega
  have i2 : (if now < 0 then 0 else now) = now := if_neg (by omega)
  have i3 : min now 4611686018427387904 = now := by omega
  have i4 : (if (4611686018427387904 : Int) < now then (4611686018427387904 : Int) else now) = now := if_neg (by omega)
  have i5 : max (now - t) 0 = now - t := by omega
  have i6 : (if now - t < 0 then 0 else now - t) = now - t := if_neg (by omega)
  go_enter Tryz.func196, Tryz.ntmps196
  go_wp2
  go_ret
  exact ⟨rfl, rfl⟩
theorem sentStateOf_at (n ack : Nat) (k : Nat) (hd : ∀ W, Calls Tryz.prog 155 #[.int .u64 ack, .int .u64 n] W fun e w' => e = .returned (.int .i64 k) ∧ W = w') (v : Value) (l : List Int) (hk : k < l.length) (w : World) (hv : I64At w v l) :
    Calls Tryz.prog 170 #[.int .u64 n, .int .u64 ack, v] w fun e w' => e = .returned (.int .i64 (l.getD k 0)) ∧ w' = w := by
  obtain ⟨p, cap, rfl, h1, h2, hc⟩ := hv.at_
  obtain ⟨b, o, rfl, hb, hcell⟩ := hc k hk
  have hki : (k : Int) < (l.length : Int) := by omega
  have hl := hv.len
  have HD := Lib.hid hd
  clear hc hv hd
  generalize l.getD k 0 = x at *
  generalize l.length = N at *
  go_enter Tryz.func170, Tryz.ntmps170
  go_wp2_with (go_at_call 155; (with_reducible refine (HD.out _).mono ?_); rintro e w1 ⟨rfl, rfl⟩)
  go_ret
  exact ⟨rfl, rfl⟩
theorem heardTake_none (H g o : Nat) (now : Int) (w : World) :
    Calls Tryz.prog 169 #[.pointer (some ⟨H, 0, none⟩), .pointer (some ⟨g, o, none⟩), .int .i64 3, .int .i64 now] w fun e w' => e = .returned (.tuple #[]) ∧ w' = w := by
  go_enter Tryz.func169, Tryz.ntmps169
  go_wp2
  exact bodyPost_ret (results_none rfl _ _ _) rfl ⟨rfl, rfl⟩
theorem infoU64s : (Tryz.prog.info? 55).map (fun i => (i.zero, i.size, i.bytes)) = some (some (.int .u64 0), 1, 8) := by kernel_rfl
theorem ownsRow_keptB {T sz n : Nat} {v : Value} {xs : List Value} {S : List Nat} {w w' : World} (h : w.ownsRow 0 T sz v n xs) (k : Kept S w w') (hn : ∀ g, v.ownBlock = some g → g ∉ S) : w'.ownsRow 0 T sz v n xs := by
  refine ⟨h.1, ?_⟩
  rcases h.2 with hv | ⟨g, cap, cur, rfl, hb, hg, rest⟩
  · exact .inl hv
  · exact .inr ⟨g, cap, cur, rfl, hb, (k.block g (Array.getElem?_eq_some_iff.1 hg).1 (hn g rfl)).trans hg, rest⟩
set_option maxHeartbeats 4000000 in
theorem heardTake_got (gs : List Nat) (hg : gs.length ≤ 1000) (vG : Value) (marks rtt : Int) (hm1 : 0 ≤ marks) (hm2 : marks ≤ 1000) (told : Int) (ht : told = 0 ∨ told = 1) (n : Nat) (t now : Int) (h0 : 0 ≤ t) (h1 : t ≤ now) (h2 : now ≤ 4611686018427387904) (H g o : Nat) (w : World) (hH : HeardAt gs vG marks rtt H w)
    (c0 : w.cell? ⟨g, o, none⟩ = some (.int .u64 n)) (c1 : w.cell? ⟨g, o + 1, none⟩ = some (.int .i64 t)) (c2 : w.cell? ⟨g, o + 2, none⟩ = some (.int .i64 0)) (f2 : w.frozen? ⟨g, o + 2, none⟩ = false) (hgH : g ≠ H) (hgv : ∀ q, vG.ownBlock = some q → q ≠ g) :
    Calls Tryz.prog 169 #[.pointer (some ⟨H, 0, none⟩), .pointer (some ⟨g, o, none⟩), .int .i64 told, .int .i64 now] w fun e w' => ∃ q c W, e = .returned (.tuple #[]) ∧ w' = W.setCell ⟨g, o + 2, none⟩ (.int .i64 1) ∧ HeardAt (gs ++ [n]) (.slice (some ⟨q, 0, none⟩) (gs.length + 1) c) (marks + told) (now - t) H w' ∧ Kept (H :: own vG) w W ∧ (vG.ownBlock = some q ∨ w.heap.size ≤ q) := by
  obtain ⟨i0, hi, hz0, hz1, hz2⟩ := info_parts infoU64s
  have HS := Lib.hid (fun W => sentSince_any t now h0 h1 h2 W)
  have a0 : w.cell? ⟨H, 0, none⟩ = some vG := hH.blk.cell 0
  have a3 : w.cell? ⟨H, 3, none⟩ = some (.int .i64 marks) := hH.blk.cell 3
  have a4 : w.cell? ⟨H, 4, none⟩ = some (.int .i64 rtt) := hH.blk.cell 4
  have b0 := hH.blk.free 0
  have b3 := hH.blk.free 3
  have b4 := hH.blk.free 4
  have HH := Lib.hid hH
  clear hH
  have HHA : Hid (∀ W0, HeardAt gs vG (marks + told) rtt H W0 → Kept [H] w W0 → W0.cell? ⟨g, o, none⟩ = some (.int .u64 n) ∧ W0.cell? ⟨g, o + 1, none⟩ = some (.int .i64 t) ∧ W0.cell? ⟨g, o + 2, none⟩ = some (.int .i64 0) ∧ W0.frozen? ⟨g, o + 2, none⟩ = false) := Lib.hid (fun W0 _ k => by
    have hlt : g < w.heap.size := World.block_lt_of_cell? w _ c0
    have hn : g ∉ [H] := by simp; exact hgH
    exact ⟨(k.cell (p := ⟨g, o, none⟩) hlt hn).trans c0, (k.cell (p := ⟨g, o + 1, none⟩) hlt hn).trans c1, (k.cell (p := ⟨g, o + 2, none⟩) hlt hn).trans c2, (k.frozen (p := ⟨g, o + 2, none⟩) hlt hn).trans f2⟩)
  have hgHs : H ≠ g := fun e => hgH e.symm
  rcases ht with rfl | rfl
  · go_enter Tryz.func169, Tryz.ntmps169
    go_upto_region 5 with fail
    obtain ⟨W0, hW0⟩ : ∃ W0, W0 = w := ⟨_, rfl⟩
    have hh0 : HeardAt gs vG (marks + 0) rtt H W0 := by rw [hW0, Int.add_zero]; exact HH.out
    have hk0 : Kept [H] w W0 := by rw [hW0]; exact Kept.refl _ _
    rw [← hW0]
    obtain ⟨d0, d1, d2, e2⟩ := HHA.out W0 hh0 hk0
    clear hW0 c0 c1 c2 f2 a0 a3 a4 b0 b3 b4 HHA
    have a0 : W0.cell? ⟨H, 0, none⟩ = some vG := hh0.blk.cell 0
    have b0 := hh0.blk.free 0
    have HNG : Hid (g ∉ own vG ∧ H ∉ own vG) := Lib.hid ⟨fun hm => by
      cases hv : vG.ownBlock with
      | none => rw [own, hv] at hm; cases hm
      | some q => rw [own, hv] at hm; simp at hm; exact hgv q hv hm.symm, fun hm => by
      cases hv : vG.ownBlock with
      | none => rw [own, hv] at hm; cases hm
      | some q => rw [own, hv] at hm; simp at hm; exact HH.out.ne q hv hm.symm⟩
    have HLT : Hid (g < W0.heap.size ∧ H < W0.heap.size ∧ w.heap.size ≤ W0.heap.size) := Lib.hid ⟨World.block_lt_of_cell? W0 _ d0, hh0.blk.lt, hk0.size⟩
    have HRT : Hid (((W0.drewN 1).alloc (.cells #[.int .u64 n] 55)).ownsRow 0 55 1 vG gs.length (gs.map fun n : Nat => Value.int .u64 (n : Int))) := Lib.hid (hh0.row.kept (row := none) ⟨rfl, rfl, rfl, by simp, fun k hk _ => (((Kept.refl [] W0).drewN 1).alloc _).block k hk (by simp)⟩ (by cases vG.ownBlock <;> simp))
    have HNW : Hid (∀ i u, [Value.int .u64 (n : Int)][i]? = some u → ((W0.drewN 1).alloc (.cells #[.int .u64 n] 55)).cell? ((⟨W0.heap.size, 0, none⟩ : Addr).add i) = some u) := Lib.hid (World.news_of_block (cs := #[.int .u64 n]) (fr := (0, 0)) (t := 55) (BlkIs.new #[.int .u64 n] 55 (W0.drewN 1)))
    have HH0 := Lib.hid hh0
    have HK0 := Lib.hid hk0
    have n0 : ∀ j o, ((W0.drewN j).alloc o).cell? ⟨H, 0, none⟩ = some vG := fun j o => (BlkIs.alloc (BlkIs.drewN HH0.out.blk j) o).cell 0
    have n1 : ∀ o, (W0.alloc o).cell? ⟨H, 0, none⟩ = some vG := fun o => (BlkIs.alloc HH0.out.blk o).cell 0
    clear hh0 hk0
    go_region_law (refine step_append_lies _ rfl (.tmp 48) (.tmp 53) 84 rfl 0 55 i0 (.int .u64 0) 1 8 Tryz.underlying84 hi hz0 hz1 hz2 rfl (by decide) vG gs.length (gs.map fun n : Nat => Value.int .u64 (n : Int)) (by simp [Act.eval, Act.put]) HRT.out ⟨W0.heap.size, 0, none⟩ 1 1 [Value.int .u64 (n : Int)] (by simp [Act.eval, Act.put]) rfl HNW.out (by intro u hu; simp at hu; subst hu; rfl) (by decide) (by unfold maxLen; omega) (by omega) (Nat.zero_le _) _ rfl ?_; intro q c w1 hown hgrow hat hlt; have hk1 : Kept (own vG) W0 w1 := ((((Kept.refl (own vG) W0).drewN 1).alloc _).grown hgrow (fun q hq => .inl (by simp [own, hq]))); have hb1 := HH0.out.blk.kept hk1 HNG.out.2; have x0 : w1.cell? ⟨H, 0, none⟩ = some vG := BlkIs.cell hb1 0; have y0 := BlkIs.free hb1 0)
    all_goals (
      have hqg : q ≠ g := by
        rcases hat with h3 | h3
        · exact hgv q h3
        · have := HLT.out.1; simp at h3; omega
      have hqH : q ≠ H := by
        rcases hat with h3 | h3
        · exact HH.out.ne q h3
        · have := HLT.out.2.1; simp at h3; omega
      obtain ⟨W2, hW2⟩ : ∃ W2, w1.setCell ⟨H, 0, none⟩ (.slice (some ⟨q, 0, none⟩) (gs.length + 1) c) = W2 := ⟨_, rfl⟩
      have kH : Kept [H] w1 W2 := by rw [← hW2]; exact (Kept.refl _ _).setCell (.inl (by simp)) _
      have hb2 : BlkIs (heardCells (.slice (some ⟨q, 0, none⟩) (gs.length + 1) c) (marks + 0) rtt) 86 H W2 := by rw [← hW2]; exact hb1.set 0 _
      have hr2 : W2.ownsRow 0 55 1 (.slice (some ⟨q, 0, none⟩) (gs.length + 1) c) (gs.length + 1) ((gs.map fun n : Nat => Value.int .u64 (n : Int)) ++ [.int .u64 (n : Int)]) := by
        rw [← hW2]
        exact ownsRow_keptB hown ((Kept.refl [H] w1).setCell (.inl (by simp)) _) (fun q2 h3 => by
          have : q = q2 := by simpa [Value.ownBlock] using h3
          simp; omega)
      have hk2 : Kept (H :: own vG) w W2 := ((HK0.out.more (fun x hx => by simp at hx; simp [hx])).trans' (hk1.more (fun x hx => by simp [hx]))).trans' (kH.more (fun x hx => by simp at hx; simp [hx]))
      have kg1 : Kept (H :: own vG) W0 W2 := (hk1.more (fun x hx => by simp [hx])).trans' (kH.more (fun x hx => by simp at hx; simp [hx]))
      have hgm : g ∉ H :: own vG := by
        intro hm
        rcases List.mem_cons.1 hm with h3 | h3
        · exact hgH h3
        · exact HNG.out.1 h3
      have z1 : W2.cell? ⟨g, o + 1, none⟩ = some (.int .i64 t) := (kg1.cell (p := ⟨g, o + 1, none⟩) HLT.out.1 hgm).trans d1
      have z2 : W2.cell? ⟨g, o + 2, none⟩ = some (.int .i64 0) := (kg1.cell (p := ⟨g, o + 2, none⟩) HLT.out.1 hgm).trans d2
      have zf : W2.frozen? ⟨g, o + 2, none⟩ = false := (kg1.frozen (p := ⟨g, o + 2, none⟩) HLT.out.1 hgm).trans e2
      have z4 : W2.cell? ⟨H, 4, none⟩ = some (.int .i64 rtt) := hb2.cell 4
      have zf4 := hb2.free 4
      rw [hW2]
      clear hW2 d0 d1 d2 e2 a0 b0 x0 y0 n0 n1
      go_wp2_with (go_at_call 196; (with_reducible refine (HS.out _).mono ?_); rintro e w5 ⟨rfl, rfl⟩)
      go_end0
      refine ⟨q, c, w5.setCell ⟨H, 4, none⟩ (.int .i64 (now - t)), rfl, rfl, ⟨(hb2.set 4 _).far (fun e => hgHs e) _, ?_, fun q2 h3 => ?_⟩, hk2.setCell (.inl (by simp)) _, ?_⟩
      · rw [List.length_append, List.map_append]
        exact ownsRow_keptB hr2 (((Kept.refl [H, g] w5).setCell (.inl (by simp)) _).setCell (.inl (by simp)) _) (fun q2 h3 => by
          have : q = q2 := by simpa [Value.ownBlock] using h3
          simp; omega)
      · have : q = q2 := by simpa [Value.ownBlock] using h3
        omega
      · rcases hat with h3 | h3
        · exact .inl h3
        · right; have := HLT.out.2.2; simp at h3; omega)
  · go_enter Tryz.func169, Tryz.ntmps169
    go_upto_region 5 with fail
    obtain ⟨W0, hW0⟩ : ∃ W0, W0 = w.setCell ⟨H, 3, none⟩ (.int .i64 (marks + 1)) := ⟨_, rfl⟩
    have hk0 : Kept [H] w W0 := by rw [hW0]; exact (Kept.refl _ _).setCell (.inl (by simp)) _
    have hh0 : HeardAt gs vG (marks + 1) rtt H W0 := by
      refine ⟨?_, ownsRow_keptB HH.out.row hk0 (fun q h3 => by simp; exact HH.out.ne q h3), HH.out.ne⟩
      rw [hW0]; exact HH.out.blk.set 3 _
    rw [← hW0]
    obtain ⟨d0, d1, d2, e2⟩ := HHA.out W0 hh0 hk0
    clear hW0 c0 c1 c2 f2 a0 a3 a4 b0 b3 b4 HHA
    have a0 : W0.cell? ⟨H, 0, none⟩ = some vG := hh0.blk.cell 0
    have b0 := hh0.blk.free 0
    have HNG : Hid (g ∉ own vG ∧ H ∉ own vG) := Lib.hid ⟨fun hm => by
      cases hv : vG.ownBlock with
      | none => rw [own, hv] at hm; cases hm
      | some q => rw [own, hv] at hm; simp at hm; exact hgv q hv hm.symm, fun hm => by
      cases hv : vG.ownBlock with
      | none => rw [own, hv] at hm; cases hm
      | some q => rw [own, hv] at hm; simp at hm; exact HH.out.ne q hv hm.symm⟩
    have HLT : Hid (g < W0.heap.size ∧ H < W0.heap.size ∧ w.heap.size ≤ W0.heap.size) := Lib.hid ⟨World.block_lt_of_cell? W0 _ d0, hh0.blk.lt, hk0.size⟩
    have HRT : Hid (((W0.drewN 1).alloc (.cells #[.int .u64 n] 55)).ownsRow 0 55 1 vG gs.length (gs.map fun n : Nat => Value.int .u64 (n : Int))) := Lib.hid (hh0.row.kept (row := none) ⟨rfl, rfl, rfl, by simp, fun k hk _ => (((Kept.refl [] W0).drewN 1).alloc _).block k hk (by simp)⟩ (by cases vG.ownBlock <;> simp))
    have HNW : Hid (∀ i u, [Value.int .u64 (n : Int)][i]? = some u → ((W0.drewN 1).alloc (.cells #[.int .u64 n] 55)).cell? ((⟨W0.heap.size, 0, none⟩ : Addr).add i) = some u) := Lib.hid (World.news_of_block (cs := #[.int .u64 n]) (fr := (0, 0)) (t := 55) (BlkIs.new #[.int .u64 n] 55 (W0.drewN 1)))
    have HH0 := Lib.hid hh0
    have HK0 := Lib.hid hk0
    have n0 : ∀ j o, ((W0.drewN j).alloc o).cell? ⟨H, 0, none⟩ = some vG := fun j o => (BlkIs.alloc (BlkIs.drewN HH0.out.blk j) o).cell 0
    have n1 : ∀ o, (W0.alloc o).cell? ⟨H, 0, none⟩ = some vG := fun o => (BlkIs.alloc HH0.out.blk o).cell 0
    clear hh0 hk0
    go_region_law (refine step_append_lies _ rfl (.tmp 48) (.tmp 53) 84 rfl 0 55 i0 (.int .u64 0) 1 8 Tryz.underlying84 hi hz0 hz1 hz2 rfl (by decide) vG gs.length (gs.map fun n : Nat => Value.int .u64 (n : Int)) (by simp [Act.eval, Act.put]) HRT.out ⟨W0.heap.size, 0, none⟩ 1 1 [Value.int .u64 (n : Int)] (by simp [Act.eval, Act.put]) rfl HNW.out (by intro u hu; simp at hu; subst hu; rfl) (by decide) (by unfold maxLen; omega) (by omega) (Nat.zero_le _) _ rfl ?_; intro q c w1 hown hgrow hat hlt; have hk1 : Kept (own vG) W0 w1 := ((((Kept.refl (own vG) W0).drewN 1).alloc _).grown hgrow (fun q hq => .inl (by simp [own, hq]))); have hb1 := HH0.out.blk.kept hk1 HNG.out.2; have x0 : w1.cell? ⟨H, 0, none⟩ = some vG := BlkIs.cell hb1 0; have y0 := BlkIs.free hb1 0)
    all_goals (
      have hqg : q ≠ g := by
        rcases hat with h3 | h3
        · exact hgv q h3
        · have := HLT.out.1; simp at h3; omega
      have hqH : q ≠ H := by
        rcases hat with h3 | h3
        · exact HH.out.ne q h3
        · have := HLT.out.2.1; simp at h3; omega
      obtain ⟨W2, hW2⟩ : ∃ W2, w1.setCell ⟨H, 0, none⟩ (.slice (some ⟨q, 0, none⟩) (gs.length + 1) c) = W2 := ⟨_, rfl⟩
      have kH : Kept [H] w1 W2 := by rw [← hW2]; exact (Kept.refl _ _).setCell (.inl (by simp)) _
      have hb2 : BlkIs (heardCells (.slice (some ⟨q, 0, none⟩) (gs.length + 1) c) (marks + 1) rtt) 86 H W2 := by rw [← hW2]; exact hb1.set 0 _
      have hr2 : W2.ownsRow 0 55 1 (.slice (some ⟨q, 0, none⟩) (gs.length + 1) c) (gs.length + 1) ((gs.map fun n : Nat => Value.int .u64 (n : Int)) ++ [.int .u64 (n : Int)]) := by
        rw [← hW2]
        exact ownsRow_keptB hown ((Kept.refl [H] w1).setCell (.inl (by simp)) _) (fun q2 h3 => by
          have : q = q2 := by simpa [Value.ownBlock] using h3
          simp; omega)
      have hk2 : Kept (H :: own vG) w W2 := ((HK0.out.more (fun x hx => by simp at hx; simp [hx])).trans' (hk1.more (fun x hx => by simp [hx]))).trans' (kH.more (fun x hx => by simp at hx; simp [hx]))
      have kg1 : Kept (H :: own vG) W0 W2 := (hk1.more (fun x hx => by simp [hx])).trans' (kH.more (fun x hx => by simp at hx; simp [hx]))
      have hgm : g ∉ H :: own vG := by
        intro hm
        rcases List.mem_cons.1 hm with h3 | h3
        · exact hgH h3
        · exact HNG.out.1 h3
      have z1 : W2.cell? ⟨g, o + 1, none⟩ = some (.int .i64 t) := (kg1.cell (p := ⟨g, o + 1, none⟩) HLT.out.1 hgm).trans d1
      have z2 : W2.cell? ⟨g, o + 2, none⟩ = some (.int .i64 0) := (kg1.cell (p := ⟨g, o + 2, none⟩) HLT.out.1 hgm).trans d2
      have zf : W2.frozen? ⟨g, o + 2, none⟩ = false := (kg1.frozen (p := ⟨g, o + 2, none⟩) HLT.out.1 hgm).trans e2
      have z4 : W2.cell? ⟨H, 4, none⟩ = some (.int .i64 rtt) := hb2.cell 4
      have zf4 := hb2.free 4
      rw [hW2]
      clear hW2 d0 d1 d2 e2 a0 b0 x0 y0 n0 n1
      go_wp2_with (go_at_call 196; (with_reducible refine (HS.out _).mono ?_); rintro e w5 ⟨rfl, rfl⟩)
      go_end0
      refine ⟨q, c, w5.setCell ⟨H, 4, none⟩ (.int .i64 (now - t)), rfl, rfl, ⟨(hb2.set 4 _).far (fun e => hgHs e) _, ?_, fun q2 h3 => ?_⟩, hk2.setCell (.inl (by simp)) _, ?_⟩
      · rw [List.length_append, List.map_append]
        exact ownsRow_keptB hr2 (((Kept.refl [H, g] w5).setCell (.inl (by simp)) _).setCell (.inl (by simp)) _) (fun q2 h3 => by
          have : q = q2 := by simpa [Value.ownBlock] using h3
          simp; omega)
      · have : q = q2 := by simpa [Value.ownBlock] using h3
        omega
      · rcases hat with h3 | h3
        · exact .inl h3
        · right; have := HLT.out.2.2; simp at h3; omega)
end Go.Proofs.YtnhlachoimlhhaaGreatDoor

namespace Go.Proofs.YtnhlachoimlhhaaGreatDoor
open Go.ChangeShapes Go.WideShapes Go.ChangeAt Go.RowKit
set_option linter.unusedVariables false
set_option linter.unusedSimpArgs false

def outCnt : Nat → Int
  | 0 => 0
  | 1 => 0
  | _ => 1
theorem sentOut_three (C g c : Nat) (w : World) (h : RecsAt [(5, 0, 1), (6, 10, 0), (7, 20, 1)] C g c w) :
    Calls Tryz.prog 146 #[.pointer (some ⟨C, 0, none⟩)] w fun e w' => e = .returned (.int .i64 1) ∧ Below w.heap.size w w' := by
  have a0 : w.cell? ⟨C, 0, none⟩ = some (.slice (some ⟨g, 0, none⟩) 3 c) := h.blk.cell 0
  have H := Lib.hid h
  have hc1 : 3 ≤ c := h.cap1
  have hc2 := h.cap2
  clear h
  go_enter Tryz.func146, Tryz.ntmps146
  go_upto_region 5 with fail
  go_loopw [3, 13] (fun n i wr => ∃ k : Nat, k ≤ 3 ∧ i = .int .i64 (k : Int) ∧ n = .int .i64 (outCnt k) ∧ Hid (Below w.heap.size w wr)) (fun _ i _ => 3 - (intOf i).toNat)
  case atStart => exact ⟨0, by decide, rfl, rfl, Lib.hid (Below.refl _ _)⟩
  case round =>
    obtain ⟨k, hk, rfl, rfl, hb⟩ := hrel
    obtain rfl | rfl | rfl | rfl : k = 0 ∨ k = 1 ∨ k = 2 ∨ k = 3 := by omega
    · obtain ⟨x0, x1, x2⟩ := (H.out.below hb.out).row 0 _ rfl
      go_wp2
      go_roundw
      case rel => exact ⟨1, by decide, rfl, rfl, Lib.hid (bel_trans hb.out (bel_alloc _ _))⟩
      case measure => simp [intOf]
    · obtain ⟨x0, x1, x2⟩ := (H.out.below hb.out).row 1 _ rfl
      go_wp2
      go_roundw
      case rel => exact ⟨2, by decide, rfl, congrArg (Value.int .i64) (show wrap64 (0 + 1) = 1 by simp [wrap64]), Lib.hid (bel_trans hb.out (bel_alloc _ _))⟩
      case measure => simp [intOf]
    · obtain ⟨x0, x1, x2⟩ := (H.out.below hb.out).row 2 _ rfl
      go_wp2
      go_roundw
      case rel => exact ⟨3, by decide, rfl, rfl, Lib.hid (bel_trans hb.out (bel_alloc _ _))⟩
      case measure => simp [intOf]
    · go_wp2
      go_ret
      exact ⟨rfl, hb.out⟩
end Go.Proofs.YtnhlachoimlhhaaGreatDoor
