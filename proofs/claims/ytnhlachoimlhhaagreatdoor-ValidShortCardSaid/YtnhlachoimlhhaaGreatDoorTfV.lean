/-
  Package rset: Only, Maximize, Halve.
  Package tfrc: what it tells; waiting in vain.
-/
import Derived.Test.YtnhlachoimlhhaaGreatDoorSetM
import Derived.Test.YtnhlachoimlhhaaGreatDoorMatW
import Derived.Deep.RegionLaw
import Derived.Test.YtnhlachoimlhhaaGreatDoorTfW
namespace Go.Proofs.YtnhlachoimlhhaaGreatDoor
open Go.ChangeShapes Go.WideShapes Go.ChangeAt Go.RowKit
set_option linter.unusedVariables false
set_option linter.unusedSimpArgs false

/-- The greatest of x and what was told. -/
def M.maxNT (l : List Pr) (x : Nat) : Nat := l.foldl (fun m p => if p.2 = 18446744073709551615 then m else max m p.2) x
theorem M.maxNT_snoc (l : List Pr) (x : Nat) (p : Pr) : M.maxNT (l ++ [p]) x = if p.2 = 18446744073709551615 then M.maxNT l x else max (M.maxNT l x) p.2 := by unfold M.maxNT; rw [List.foldl_append]; rfl
theorem M.maxNT_lt (l : List Pr) (x : Nat) (hx : x < 18446744073709551616) (h : ∀ p ∈ l, p.2 < 18446744073709551616) : M.maxNT l x < 18446744073709551616 := by
  unfold M.maxNT
  revert x
  induction l with
  | nil => intro m hm; exact hm
  | cons p l ih =>
    intro m hm
    rw [List.foldl_cons]
    refine ih (fun q hq => h q (by simp [hq])) _ ?_
    have := h p (by simp)
    split
    · exact hm
    · omega
/-- Each that was told, its half. -/
def M.halfPr (p : Pr) : Pr := if p.2 = 18446744073709551615 then p else (p.1, p.2 / 2)
theorem Kept.cellS {S : List Nat} {w w' : World} (k : Kept S w w') {p : Addr} (hlt : p.block < w.heap.size) (hn : p.block ∉ S) : w'.cell? p = w.cell? p := by
  unfold World.cell?
  rw [k.block _ hlt hn]
theorem Kept.frozenS {S : List Nat} {w w' : World} (k : Kept S w w') {p : Addr} (hlt : p.block < w.heap.size) (hn : p.block ∉ S) : w'.frozen? p = w.frozen? p := by
  unfold World.frozen?
  rw [k.block _ hlt hn]
theorem ownsRow_keptS {T sz n B : Nat} {v : Value} {xs : List Value} {S : List Nat} {w w' : World} (h : w.ownsRow B T sz v n xs) (k : Kept S w w') (hn : ∀ g, v.ownBlock = some g → g ∉ S) : w'.ownsRow B T sz v n xs := by
  refine ⟨h.1, ?_⟩
  rcases h.2 with hv | ⟨g, cap, cur, rfl, hb, hg, rest⟩
  · exact .inl hv
  · exact .inr ⟨g, cap, cur, rfl, hb, (k.block g (Array.getElem?_eq_some_iff.1 hg).1 (hn g rfl)).trans hg, rest⟩
set_option maxHeartbeats 2000000 in
set_option maxRecDepth 100000 in
theorem rsetOnly_any (l : List Pr) (h0 : 0 < l.length) (x : Nat) (now : Int) (N : Int) (hN : max 0 (min now 4611686018427387904) = N) (P : Nat) (v : Value) (w : World) (h : SetAt l P v w) :
    Calls Tryz.prog 225 #[.pointer (some ⟨P, 0, none⟩), .int .u64 x, .int .i64 now] w fun e w' => e = .returned (.tuple #[]) ∧ ∃ g c, SetAt [(N, x)] P (.slice (some ⟨g, 0, none⟩) 1 c) w' ∧ Kept (P :: own v) w w' ∧ (v.ownBlock = some g ∨ w.heap.size ≤ g) := by
  have HW := Lib.hid (fun W => rsetWithin_any now 4611686018427387904 (by decide) W)
  rw [hN] at HW
  obtain ⟨i0, hi, hz0, hz1, hz2⟩ := info_parts infoPr
  obtain ⟨g, c, hv, hc1, hc2, hg, hcell, hfr, cur, hcur⟩ := h.row.shape h0
  have hE : w.ownsRow 0 193 2 (.slice (some ⟨g, 0, none⟩) 0 c) 0 [] := by
    rcases h.row.2 with ⟨hv2, _⟩ | ⟨g', cap, cur', hv2, hB, hg', hcap, hcm, hs, ht⟩
    · rw [hv] at hv2; cases hv2
    · rw [hv] at hv2
      injection hv2 with e1 e2 e3
      injection e1 with e1
      injection e1 with e1
      subst e1 e3
      exact ⟨rfl, .inr ⟨g, c, cur', rfl, hB, hg', Nat.zero_le _, hcm, hs, by simp⟩⟩
  subst hv
  have c0 : w.cell? ⟨P, 0, none⟩ = some (.slice (some ⟨g, 0, none⟩) l.length c) := BlkIs.cell h.set 0
  have f0 := BlkIs.free h.set 0
  have HSET := Lib.hid h.set
  have HPL : Hid (P < w.heap.size ∧ g < w.heap.size ∧ g ≠ P) := Lib.hid ⟨h.set.lt, hg, h.ne g rfl⟩
  obtain ⟨B, hB⟩ : ∃ B, w.heap.size = B := ⟨_, rfl⟩
  have n0 : ∀ j o, ((w.drewN j).alloc o).cell? ⟨P, 0, none⟩ = some (.slice (some ⟨g, 0, none⟩) l.length c) := fun j o => ((HSET.out.drewN j).alloc o).cell 0
  have n1 : ∀ o, (w.alloc o).cell? ⟨P, 0, none⟩ = some (.slice (some ⟨g, 0, none⟩) l.length c) := fun o => (HSET.out.alloc o).cell 0
  have HRT : Hid (∀ j, ((w.drewN j).alloc (.cells #[.int .i64 N, .int .u64 x] 193)).ownsRow 0 193 2 (.slice (some ⟨g, 0, none⟩) 0 c) 0 []) := Lib.hid (fun j => ownsRow_keptS hE (((Kept.refl [] w).drewN j).alloc _) (by simp))
  have HNW : Hid (∀ j, ∀ i u, (prCells (N, x)).toList[i]? = some u → ((w.drewN j).alloc (.cells #[.int .i64 N, .int .u64 x] 193)).cell? ((⟨B, 0, none⟩ : Addr).add i) = some u) := Lib.hid (fun j => World.news_of_block (fr := (0, 0)) (t := 193) (by
    have := BlkIs.new (prCells (N, x)) 193 (w.drewN j)
    rw [show (w.drewN j).heap.size = B from hB] at this
    exact this))
  have HBK : Hid (∀ j, BlkIs #[.slice (some ⟨g, 0, none⟩) l.length c] 196 P ((w.drewN j).alloc (.cells #[.int .i64 N, .int .u64 x] 193))) := Lib.hid (fun j => (HSET.out.drewN j).alloc _)
  have HKE : Hid (∀ j, Kept (P :: [g]) w ((w.drewN j).alloc (.cells #[.int .i64 N, .int .u64 x] 193))) := Lib.hid (fun j => ((Kept.refl _ w).drewN j).alloc _)
  have HNE : Hid (some P ≠ some g) := Lib.hid (fun e => by injection e with e; exact HPL.out.2.2 e.symm)
  generalize l.length = L at *
  have HBe := Lib.hid hB
  clear h hcell hfr hcur hN hE
  go_enter Tryz.func225, Tryz.ntmps225
  go_wp2
  go_region_law (first
    | (go_simp; go_at_call 220; (with_reducible refine (HW.out _).mono ?_); rintro e w5 ⟨rfl, rfl⟩)
    | (refine step_append_lies _ rfl (.tmp 13) (.tmp 18) 194 rfl 0 193 i0 (.agg #[.int .i64 0, .int .u64 0]) 2 16 Tryz.underlying194 hi hz0 hz1 hz2 rfl (by decide) (.slice (some ⟨g, 0, none⟩) 0 c) 0 [] (by simp [Act.eval, Act.put]) (HRT.out _) ⟨B, 0, none⟩ 1 1 (prCells (N, x)).toList (by simp [Act.eval, Act.put]) rfl (HNW.out _) (by intro u hu; simp [prCells] at hu; rcases hu with rfl | rfl <;> rfl) (by decide) (by unfold maxLen; omega) (by omega) (Nat.zero_le _) _ rfl ?_; intro g2 cap2 w1 hown hgrow hat hlt; have hb1 := BlkIs.grown (HBK.out _) hgrow HNE.out; have hk1 := (HKE.out _).grown hgrow (fun q hq => .inl (by simp [Value.ownBlock] at hq; simp [hq])); have a1 : w1.cell? ⟨P, 0, none⟩ = some (.slice (some ⟨g, 0, none⟩) L c) := BlkIs.cell hb1 0; have f1 := BlkIs.free hb1 0))
  all_goals
    go_wp2
    go_end0
    have hat2 : some g = some g2 ∨ w.heap.size ≤ g2 := by
      rcases hat with h1 | h1
      · exact .inl h1
      · right; have h2 := (HKE.out 0).size; have h3 := HBe.out; simp at h1; omega
    have hgP : g2 ≠ P := by
      rcases hat2 with h1 | h1
      · injection h1 with h1; have := HPL.out.2.2; omega
      · have := HPL.out.1; omega
    have hr1 : PrRow [(N, x)] (.slice (some ⟨g2, 0, none⟩) 1 cap2) w1 := hown
    refine ⟨rfl, g2, cap2, ⟨hb1.set 0 _, hr1.kept ((Kept.refl [P] w1).setCell (.inl (by simp)) _) (fun q hq => ?_)⟩, hk1.setCell (.inl (by simp)) _, hat2⟩
    have : g2 = q := by simpa [Value.ownBlock] using hq
    simp; omega
set_option maxHeartbeats 2000000 in
theorem rsetMaximize_any (l : List Pr) (hl : l.length ≤ 8) (h0 : 0 < l.length) (hsm : ∀ p ∈ l, p.2 < 18446744073709551616) (x : Nat) (hx : x < 18446744073709551616) (now : Int) (N : Int) (hN : max 0 (min now 4611686018427387904) = N) (P : Nat) (v : Value) (w : World) (h : SetAt l P v w) :
    Calls Tryz.prog 201 #[.pointer (some ⟨P, 0, none⟩), .int .u64 x, .int .i64 now] w fun e w' => e = .returned (.tuple #[]) ∧ ∃ g c, SetAt [(N, M.maxNT l x)] P (.slice (some ⟨g, 0, none⟩) 1 c) w' ∧ Kept (P :: own v) w w' ∧ (v.ownBlock = some g ∨ w.heap.size ≤ g) := by
  have c0 : w.cell? ⟨P, 0, none⟩ = some v := BlkIs.cell h.set 0
  have HON := Lib.hid (fun W (hW : SetAt l P v W) => rsetOnly_any l h0 (M.maxNT l x) now N hN P v W hW)
  obtain ⟨g, c, rfl, hc1, hc2, hg, hcell, _, _⟩ := h.row.shape h0
  have HCELL := Lib.hid hcell
  have HH := Lib.hid h
  obtain ⟨L, hL⟩ : ∃ L, l.length = L := ⟨_, rfl⟩
  have HL := Lib.hid hL
  rw [hL] at h0 hc1 hl HCELL c0 HON HH
  clear h hcell hL hN hsm
  have hown : own (.slice (some ⟨g, 0, none⟩) l.length c) = [g] := rfl
  go_enter Tryz.func201, Tryz.ntmps201
  go_wp2
  go_loopw [1, 15] (fun a i wr => ∃ k : Nat, k ≤ L ∧ i = .int .i64 (k : Int) ∧ a = .int .u64 (M.maxNT (l.take k) x) ∧ Hid (Below w.heap.size w wr)) (fun _ i _ => L - (intOf i).toNat)
  case atStart => exact ⟨0, Nat.zero_le _, rfl, rfl, Lib.hid (Below.refl _ _)⟩
  case round =>
    obtain ⟨k, hk, rfl, rfl, hb⟩ := hrel
    by_cases hlt2 : k < L
    · obtain ⟨x0, x1⟩ := HCELL.out k hlt2
      rw [← hb.out.cell (p := ⟨g, k * 2, none⟩) hg] at x0
      rw [← hb.out.cell (p := ⟨g, k * 2 + 1, none⟩) hg] at x1
      have e : Hid (M.maxNT (l.take (k + 1)) x = if (l.getD k (0, 0)).2 = 18446744073709551615 then M.maxNT (l.take k) x else max (M.maxNT (l.take k) x) (l.getD k (0, 0)).2) := Lib.hid (by rw [take_snocP l k (by rw [HL.out]; exact hlt2), M.maxNT_snoc])
      generalize l.getD k (0, 0) = p at *
      obtain ⟨a, y⟩ := p
      simp only at x0 x1 e
      generalize M.maxNT (l.take k) x = m at *
      by_cases hy : y = 18446744073709551615
      · rw [if_pos hy] at e
        have hyb : ((y : Int) != 18446744073709551615) = false := by rw [bne_eq_false_iff_eq]; omega
        go_wp2
        go_roundw
        case rel => exact ⟨k + 1, by omega, by go_num, by rw [e.out], Lib.hid (bel_trans hb.out (bel_trans (bel_alloc _ _) (by first | exact (Below.refl _ _).setCell (Nat.le_refl _) _ | exact Below.refl _ _)))⟩
        case measure => simp [intOf]; omega
      · rw [if_neg hy] at e
        have hyb : ((y : Int) != 18446744073709551615) = true := by rw [bne_iff_ne]; omega
        obtain ⟨R, hR⟩ : ∃ R, max m y = R := ⟨_, rfl⟩
        have i1 : (if (m : Int) < (y : Int) then (y : Int) else (m : Int)) = (R : Int) := by split <;> omega
        have i2 : max (m : Int) (y : Int) = (R : Int) := by omega
        have i3 : (if m < y then (y : Int) else (m : Int)) = (R : Int) := by split <;> omega
        rw [hR] at e
        clear hR
        go_wp2
        go_roundw
        case rel => exact ⟨k + 1, by omega, by go_num, by rw [e.out], Lib.hid (bel_trans hb.out (bel_trans (bel_alloc _ _) (by first | exact (Below.refl _ _).setCell (Nat.le_refl _) _ | exact Below.refl _ _)))⟩
        case measure => simp [intOf]; omega
    · have e : Hid (M.maxNT l x = M.maxNT (l.take k) x) := Lib.hid (by rw [List.take_of_length_le (by rw [HL.out]; omega)])
      rw [e.out] at HON
      generalize M.maxNT (l.take k) x = m at *
      go_wp2_with (go_at_call 225; (with_reducible refine (HON.out wr (HH.out.below hb.out)).mono ?_); rintro e w1 ⟨rfl, g2, c2, hs2, hk2, hat2⟩)
      go_end0
      rw [e.out]
      refine ⟨rfl, g2, c2, hs2, (Kept.of_below _ hb.out).trans' hk2, ?_⟩
      rcases hat2 with h1 | h1
      · exact .inl h1
      · right; exact Nat.le_trans hb.out.size h1
theorem prList_set (l : List Pr) : ∀ (k : Nat), k < l.length → ∀ y : Nat, (prList l).set (k * 2 + 1) (.int .u64 y) = prList (l.set k ((l.getD k (0, 0)).1, y)) := by
  induction l with
  | nil => intro k hk; simp at hk
  | cons p l ih =>
    intro k hk y
    cases k with
    | zero => rfl
    | succ k =>
      have := ih k (by simpa using hk) y
      rw [List.set_cons_succ, List.getD_cons_succ]
      show ([Value.int .i64 p.1, .int .u64 p.2] ++ prList l).set ((k + 1) * 2 + 1) _ = [Value.int .i64 p.1, .int .u64 p.2] ++ prList _
      rw [List.set_append_right _ _ (by simp; omega), ← this]
      congr 2
      simp only [List.length_cons, List.length_nil]
      omega
/-- A pair's rate is written. -/
theorem SetAt.setRate {l : List Pr} {P g c : Nat} {w : World} (h : SetAt l P (.slice (some ⟨g, 0, none⟩) l.length c) w) (k : Nat) (hk : k < l.length) (y : Nat) : SetAt (l.set k ((l.getD k (0, 0)).1, y)) P (.slice (some ⟨g, 0, none⟩) l.length c) (w.setCell ⟨g, k * 2 + 1, none⟩ (.int .u64 y)) := by
  have hgP := h.ne g rfl
  refine ⟨h.set.far (fun e => hgP e.symm) _, ?_⟩
  rcases h.row.2 with ⟨hv, h0⟩ | ⟨g', cap, cur, hv, hB, hg', hcap, hcm, hs, ht⟩
  · cases hv
  · injection hv with e1 e2 e3
    injection e1 with e1
    injection e1 with e1
    subst e1 e3
    have hll : (l.set k ((l.getD k (0, 0)).1, y)).length = l.length := List.length_set
    refine ⟨by rw [prList_len, hll], .inr ⟨g, c, cur.setIfInBounds (k * 2 + 1) (.int .u64 y), by rw [hll], hB, heap_setCell_same w g _ _ _ _ hg', by rw [hll]; exact hcap, hcm, by rw [Array.size_setIfInBounds]; exact hs, ?_⟩⟩
    rw [hll, Array.toList_setIfInBounds, List.take_set, ht]
    exact prList_set l k hk y
/-- The first k of them halved. -/
def M.halfUp (l : List Pr) (k : Nat) : List Pr := (l.take k).map M.halfPr ++ l.drop k
theorem M.halfUp_len (l : List Pr) (k : Nat) (hk : k ≤ l.length) : (M.halfUp l k).length = l.length := by unfold M.halfUp; rw [List.length_append, List.length_map, List.length_take, List.length_drop]; omega
theorem M.halfUp_get (l : List Pr) (k : Nat) (hk : k < l.length) : (M.halfUp l k).getD k (0, 0) = l.getD k (0, 0) := by
  unfold M.halfUp
  rw [List.getD_eq_getElem?_getD, List.getElem?_append_right (by rw [List.length_map, List.length_take]; omega), List.length_map, List.length_take, Nat.min_eq_left (by omega), Nat.sub_self, List.getElem?_drop, Nat.add_zero, ← List.getD_eq_getElem?_getD]
theorem M.halfUp_succ (l : List Pr) (k : Nat) (hk : k < l.length) : M.halfUp l (k + 1) = (M.halfUp l k).set k (M.halfPr (l.getD k (0, 0))) := by
  unfold M.halfUp
  rw [List.set_append_right _ _ (by rw [List.length_map, List.length_take]; omega), List.length_map, List.length_take, Nat.min_eq_left (by omega), Nat.sub_self, take_snocP l k hk, List.map_append, List.append_assoc]
  congr 1
  rw [List.drop_eq_getElem_cons hk]
  rfl
theorem M.halfUp_all (l : List Pr) : M.halfUp l l.length = l.map M.halfPr := by unfold M.halfUp; rw [List.take_length, List.drop_length, List.append_nil]
theorem set_sameP (l : List Pr) (k : Nat) (hk : k < l.length) : l.set k (l.getD k (0, 0)) = l := by
  rw [List.getD_eq_getElem?_getD, List.getElem?_eq_getElem hk]
  exact List.set_getElem_self hk
set_option maxHeartbeats 2000000 in
theorem rsetHalve_any (l : List Pr) (hl : l.length ≤ 8) (h0 : 0 < l.length) (hsm : ∀ p ∈ l, p.2 < 18446744073709551616) (P : Nat) (v : Value) (w : World) (h : SetAt l P v w) :
    Calls Tryz.prog 200 #[.pointer (some ⟨P, 0, none⟩)] w fun e w' => e = .returned (.tuple #[]) ∧ SetAt (l.map M.halfPr) P v w' ∧ Kept (P :: own v) w w' := by
  have c0 : w.cell? ⟨P, 0, none⟩ = some v := BlkIs.cell h.set 0
  obtain ⟨g, c, rfl, hc1, hc2, hg, hcell, hfr, _⟩ := h.row.shape h0
  have HH := Lib.hid h
  have HGP : Hid (g ≠ P) := Lib.hid (h.ne g rfl)
  obtain ⟨L, hL⟩ : ∃ L, l.length = L := ⟨_, rfl⟩
  have HL := Lib.hid hL
  have HO : Hid (own (.slice (some ⟨g, 0, none⟩) l.length c) = [g]) := Lib.hid rfl
  rw [hL] at h0 hc1 hl c0 HO HH ⊢
  rw [HO.out]
  have HSMM := Lib.hid hsm
  clear h hcell hfr hL hsm
  go_enter Tryz.func200, Tryz.ntmps200
  go_wp2
  go_loopw [11] (fun i wr => ∃ k : Nat, k ≤ L ∧ i = .int .i64 (k : Int) ∧ Hid (SetAt (M.halfUp l k) P (.slice (some ⟨g, 0, none⟩) L c) wr) ∧ Hid (Kept [P, g] w wr)) (fun i _ => L - (intOf i).toNat)
  case atStart => exact ⟨0, Nat.zero_le _, rfl, HH, Lib.hid (Kept.refl _ _)⟩
  case round =>
    obtain ⟨k, hk, rfl, hs, hkp⟩ := hrel
    by_cases hlt2 : k < L
    · have hUl := M.halfUp_len l k (by rw [HL.out]; exact hk)
      rw [HL.out] at hUl
      obtain ⟨g', c', e, _, _, hg', hcell, hfr, _⟩ := hs.out.row.shape (by rw [hUl]; omega)
      injection e with e1 e2 e3
      injection e1 with e1
      injection e1 with e1
      subst e1 e3
      obtain ⟨x0, x1⟩ := hcell k (by rw [hUl]; exact hlt2)
      rw [M.halfUp_get l k (by rw [HL.out]; exact hlt2)] at x0 x1
      have f1 := hfr (k * 2 + 1)
      have HSU : Hid (M.halfUp l (k + 1) = (M.halfUp l k).set k (M.halfPr (l.getD k (0, 0)))) := Lib.hid (M.halfUp_succ l k (by rw [HL.out]; exact hlt2))
      have HSM : Hid ((M.halfUp l k).set k (l.getD k (0, 0)) = M.halfUp l k) := Lib.hid (by
        have h1 := set_sameP (M.halfUp l k) k (by rw [hUl]; exact hlt2)
        rw [M.halfUp_get l k (by rw [HL.out]; exact hlt2)] at h1
        exact h1)
      have HSR : Hid (∀ W y, SetAt (M.halfUp l k) P (.slice (some ⟨g, 0, none⟩) L c) W → SetAt ((M.halfUp l k).set k ((l.getD k (0, 0)).1, y)) P (.slice (some ⟨g, 0, none⟩) L c) (W.setCell ⟨g, k * 2 + 1, none⟩ (.int .u64 y))) := Lib.hid (fun W y hW => by
        have h1 := SetAt.setRate (l := M.halfUp l k) (P := P) (g := g) (c := c) (w := W) (by rw [hUl]; exact hW) k (by rw [hUl]; exact hlt2) y
        rw [M.halfUp_get l k (by rw [HL.out]; exact hlt2), hUl] at h1
        exact h1)
      have n0 : ∀ o, (wr.alloc o).cell? ⟨P, 0, none⟩ = some (.slice (some ⟨g, 0, none⟩) L c) := fun o => (hs.out.set.alloc o).cell 0
      have n1 : wr.cell? ⟨P, 0, none⟩ = some (.slice (some ⟨g, 0, none⟩) L c) := hs.out.set.cell 0
      have n2 : ∀ o i, (wr.alloc o).frozen? ⟨g, i, none⟩ = false := fun o i => by
        have h1 := ((Kept.refl [] wr).alloc o).frozenS (p := ⟨g, i, none⟩) hg' (by simp)
        rw [h1]; exact hfr i
      have n3 : ∀ o, (wr.alloc o).cell? ⟨g, k * 2 + 1, none⟩ = some (.int .u64 (l.getD k (0, 0)).2) := fun o => by
        rw [((Kept.refl [] wr).alloc o).cellS (p := ⟨g, k * 2 + 1, none⟩) hg' (by simp)]; exact x1
      have HNG : Hid (wr.heap.size ≠ g ∧ wr.heap.size ≠ P) := Lib.hid ⟨by omega, by have := hs.out.set.lt; omega⟩
      obtain ⟨p, hp⟩ : ∃ p, l.getD k (0, 0) = p := ⟨_, rfl⟩
      have hpb : p.2 < 18446744073709551616 := by
        rw [← hp, List.getD_eq_getElem?_getD, List.getElem?_eq_getElem (by rw [HL.out]; exact hlt2)]
        exact HSMM.out _ (List.getElem_mem _)
      rw [hp] at x0 x1 HSU HSM HSR n3
      obtain ⟨a, y⟩ := p
      simp only at x0 x1 HSR n3 hpb
      clear hp hcell hfr e2
      by_cases hy : y = 18446744073709551615
      · have hyb : ((y : Int) != 18446744073709551615) = false := by rw [bne_eq_false_iff_eq]; omega
        have HU2 : Hid (M.halfUp l (k + 1) = M.halfUp l k) := Lib.hid (by rw [HSU.out, show M.halfPr (a, y) = (a, y) from if_pos hy]; exact HSM.out)
        go_wp2
        go_roundw
        case rel => exact ⟨k + 1, by omega, by go_num, Lib.hid (by rw [HU2.out]; exact hs.out.below (bel_alloc _ _)), Lib.hid (hkp.out.alloc _)⟩
        case measure => simp [intOf]; omega
      · have hyb : ((y : Int) != 18446744073709551615) = true := by rw [bne_iff_ne]; omega
        obtain ⟨R, hR⟩ : ∃ R, y / 2 = R := ⟨_, rfl⟩
        have i1 : (y : Int) / 2 = (R : Int) := by omega
        have hRb : (R : Int) ≤ 9223372036854775807 := by omega
        have HU2 : Hid (M.halfUp l (k + 1) = (M.halfUp l k).set k (a, R)) := Lib.hid (by rw [HSU.out, show M.halfPr (a, y) = (a, y / 2) from if_neg hy, hR])
        clear hR
        go_wp2
        go_region
        all_goals
          go_wp2
          refine ⟨⟨k + 1, by omega, by go_num, Lib.hid ?_, Lib.hid ?_⟩, ?_⟩
          · rw [HU2.out]
            exact ((HSR.out _ R hs.out).below (bel_alloc _ _)).drewN 1
          · exact ((hkp.out.setCell (.inl (by simp)) _).alloc _).drew
          · simp [intOf]; omega
    · obtain rfl : k = L := by omega
      have hs2 := hs.out
      rw [show M.halfUp l k = l.map M.halfPr by rw [← HL.out]; exact M.halfUp_all l] at hs2
      have HS2 := Lib.hid hs2
      clear hs hs2
      go_wp2
      go_end0
      exact ⟨rfl, HS2.out, hkp.out⟩
end Go.Proofs.YtnhlachoimlhhaaGreatDoor

namespace Go.Proofs.YtnhlachoimlhhaaGreatDoor
open Go.ChangeShapes Go.WideShapes Go.ChangeAt Go.RowKit
set_option linter.unusedVariables false
set_option linter.unusedSimpArgs false

theorem tfDue_any (s : TfS) (hs : s.ok) (l : List Pr) (C P : Nat) (v : Value) (w : World) (h : TfAt s l C P v w) :
    Calls Tryz.prog 349 #[.pointer (some ⟨C, 0, none⟩)] w fun e w' => e = .returned (.tuple #[.int .i64 s.due, .bool s.runs]) ∧ ∃ n, w' = w.drewN n := by
  have HM := Lib.hid (tfMade_any s hs l C P v w h)
  have c7 : w.cell? ⟨C, 7, none⟩ = some (.int .i64 s.due) := BlkIs.cell h.tf 7
  have c8 : w.cell? ⟨C, 8, none⟩ = some (.bool s.runs) := BlkIs.cell h.tf 8
  clear h hs
  go_enter Tryz.func349, Tryz.ntmps349
  go_wp2_with (go_at_call 77; (with_reducible refine HM.out.mono ?_); rintro e w1 ⟨rfl, rfl⟩)
  go_quiet (fail)
  go_wp2
  go_ret2
  exact ⟨rfl, _, rfl⟩
theorem tfLoss_any (s : TfS) (hs : s.ok) (l : List Pr) (C P : Nat) (v : Value) (w : World) (h : TfAt s l C P v w) :
    Calls Tryz.prog 51 #[.pointer (some ⟨C, 0, none⟩)] w fun e w' => e = .returned (.int .u64 s.loss) ∧ w = w' := by
  have HM := Lib.hid (tfMade_any s hs l C P v w h)
  have c3 : w.cell? ⟨C, 3, none⟩ = some (.int .u64 s.loss) := BlkIs.cell h.tf 3
  clear h hs
  go_enter Tryz.func51, Tryz.ntmps51
  go_wp2_with (go_at_call 77; (with_reducible refine HM.out.mono ?_); rintro e w1 ⟨rfl, rfl⟩)
  go_ret
  exact ⟨rfl, rfl⟩
theorem tfFire_no (s : TfS) (hs : s.ok) (now : Int) (hd : s.runs = false ∨ now < s.due) (l : List Pr) (C P : Nat) (v : Value) (w : World) (h : TfAt s l C P v w) :
    Calls Tryz.prog 350 #[.pointer (some ⟨C, 0, none⟩), .int .i64 now] w fun e w' => e = .returned (.bool false) ∧ ∃ n, w' = w.drewN n := by
  have HM := Lib.hid (tfMade_any s hs l C P v w h)
  have c7 : w.cell? ⟨C, 7, none⟩ = some (.int .i64 s.due) := BlkIs.cell h.tf 7
  have c8 : w.cell? ⟨C, 8, none⟩ = some (.bool s.runs) := BlkIs.cell h.tf 8
  clear h hs
  cases hr : s.runs with
  | false =>
    rw [hr] at c8
    clear hd
    go_enter Tryz.func350, Tryz.ntmps350
    go_wp2_with (go_at_call 77; (with_reducible refine HM.out.mono ?_); rintro e w1 ⟨rfl, rfl⟩)
    go_ret
    exact ⟨rfl, 0, rfl⟩
  | true =>
    rw [hr] at c8
    have hd1 : decide (now < s.due) = true := decide_eq_true (by rcases hd with hd | hd; · rw [hr] at hd; cases hd
                                                                 · exact hd)
    clear hd
    go_enter Tryz.func350, Tryz.ntmps350
    go_wp2_with (go_at_call 77; (with_reducible refine HM.out.mono ?_); rintro e w1 ⟨rfl, rfl⟩)
    go_ret
    exact ⟨rfl, 0, rfl⟩
/-- The half, or the least. -/
def TfS.half (s : TfS) : TfS := { s with rate := max (s.rate / 2) s.size }
def TfS.fire (s : TfS) (now : Int) : TfS := if s.half.rate = s.size then { s.half with due := 0, runs := false } else s.half.run (M.tfDue (M.tfWait s.half) now)
theorem TfS.half_ok {s : TfS} (hs : s.ok) (hsr : s.size ≤ s.rate) : s.half.ok := ⟨hs.b0, by have := hs.b1; have := hs.b0; unfold TfS.half; simp only; omega, hs.b2, hs.b3, hs.b4⟩
theorem TfS.fire_rate (s : TfS) (now : Int) : (s.fire now).rate = max (s.rate / 2) s.size := by unfold TfS.fire; split <;> rfl
theorem TfS.fire_size (s : TfS) (now : Int) : (s.fire now).size = s.size := by unfold TfS.fire; split <;> rfl
theorem TfS.fire_rtt (s : TfS) (now : Int) : (s.fire now).rtt = s.rtt := by unfold TfS.fire; split <;> rfl
theorem TfS.fire_ok {s : TfS} (hs : s.ok) (hsr : s.size ≤ s.rate) (now : Int) : (s.fire now).ok := by
  obtain ⟨a, b, c, d, e⟩ := TfS.half_ok hs hsr
  unfold TfS.fire
  split <;> exact ⟨a, b, c, d, e⟩
theorem own_nin {v : Value} {C P : Nat} (hne : C ≠ P) (h : ∀ g, v.ownBlock = some g → g ≠ C) : C ∉ P :: own v := by
  intro hm
  rcases List.mem_cons.1 hm with h1 | h1
  · exact hne h1
  · unfold own at h1
    cases hv : v.ownBlock with
    | none => rw [hv] at h1; simp at h1
    | some g => rw [hv] at h1; simp at h1; exact h g hv h1.symm
set_option maxHeartbeats 2000000 in
set_option maxRecDepth 100000 in
theorem tfFire_yes (s : TfS) (hs : s.ok) (hr : 1 ≤ s.rtt) (hsr : s.size ≤ s.rate) (hrun : s.runs = true) (now : Int) (hn : -9223372036854775808 ≤ now ∧ now ≤ 9223372036854775807) (hd : s.due ≤ now) (N : Int) (hN : max 0 (min now 4611686018427387904) = N)
    (l : List Pr) (h0 : 0 < l.length) (C P : Nat) (v : Value) (w : World) (h : TfAt s l C P v w) :
    Calls Tryz.prog 350 #[.pointer (some ⟨C, 0, none⟩), .int .i64 now] w fun e w' => e = .returned (.bool true) ∧
      ∃ v', TfAt (s.fire now) [(N, (s.half.rate + 1) / 2)] C P v' w' ∧ Kept (C :: P :: own v) w w' ∧ (v'.ownBlock = v.ownBlock ∨ ∃ g, v'.ownBlock = some g ∧ w.heap.size ≤ g) := by
  have HM := Lib.hid (tfMade_any s hs l C P v w h)
  have c0 : w.cell? ⟨C, 0, none⟩ = some (.int .u64 s.size) := BlkIs.cell h.tf 0
  have c1 : w.cell? ⟨C, 1, none⟩ = some (.int .u64 s.rate) := BlkIs.cell h.tf 1
  have c7 : w.cell? ⟨C, 7, none⟩ = some (.int .i64 s.due) := BlkIs.cell h.tf 7
  have c8 : w.cell? ⟨C, 8, none⟩ = some (.bool s.runs) := BlkIs.cell h.tf 8
  have f1 := BlkIs.free h.tf 1
  rw [hrun] at c8
  have hd1 : decide (now < s.due) = false := decide_eq_false (by omega)
  obtain ⟨b1, b2⟩ := hs.b0
  have hb3 := hs.b1
  obtain ⟨q, hq⟩ : ∃ q, s.rate / 2 = q := ⟨_, rfl⟩
  obtain ⟨J, hJ⟩ : ∃ J, max q s.size = J := ⟨_, rfl⟩
  have hhalf : Hid (s.half = { s with rate := J }) := Lib.hid (by unfold TfS.half; rw [hq, hJ])
  obtain ⟨j1, j2, j3, j4, j5, j6⟩ := mxs q s.size J hJ
  have hJb : J < 18446744073709551615 := by omega
  obtain ⟨K, hK⟩ : ∃ K, (J + 1) / 2 = K := ⟨_, rfl⟩
  have hk0 : Kept [C] w (w.setCell ⟨C, 1, none⟩ (.int .u64 J)) := (Kept.refl _ _).setCell (.inl (by simp)) _
  have HT0 : TfAt s.half l C P v (w.setCell ⟨C, 1, none⟩ (.int .u64 J)) := by
    rw [hhalf.out]
    exact ⟨BlkIs.set h.tf 1 _, h.set.kept hk0 (by simp; exact fun e => h.ne e.symm) (fun g hg => by simp; exact h.ne2 g hg), h.ne, h.ne2⟩
  have HT : Hid (TfAt s.half l C P v ((w.setCell ⟨C, 1, none⟩ (.int .u64 J)).drew)) := Lib.hid (HT0.drewN 1)
  have HK1 : Hid (Kept [C] w ((w.setCell ⟨C, 1, none⟩ (.int .u64 J)).drew)) := Lib.hid hk0.drew
  have HOK : Hid (s.half.ok ∧ s.half.size ≤ s.half.rate) := Lib.hid ⟨TfS.half_ok hs hsr, by rw [hhalf.out]; exact j6⟩
  have HON := Lib.hid (fun W (hW : TfAt s.half l C P v W) => rsetOnly_any l h0 K now N hN P v W hW.set)
  have HNE := Lib.hid h.ne
  have HNC := Lib.hid (own_nin h.ne h.ne2)
  have HNE2 : Hid (∀ g, v.ownBlock = some g → g ≠ C) := Lib.hid h.ne2
  have HCL : Hid (C < w.heap.size) := Lib.hid h.tf.lt
  have HFI : Hid (s.fire now = if J = s.size then { s.half with due := 0, runs := false } else s.half.run (M.tfDue (M.tfWait s.half) now)) := Lib.hid (by unfold TfS.fire; rw [hhalf.out])
  have HKK : Hid ((s.half.rate + 1) / 2 = K) := Lib.hid (by rw [hhalf.out]; exact hK)
  have HCE : Hid (∀ l P v W, TfAt s.half l C P v W → W.cell? ⟨C, 0, none⟩ = some (.int .u64 s.size) ∧ W.cell? ⟨C, 1, none⟩ = some (.int .u64 J) ∧ W.cell? ⟨C, 2, none⟩ = some (.int .i64 s.rtt) ∧ W.cell? ⟨C, 4, none⟩ = some (.pointer (some ⟨P, 0, none⟩)) ∧ ∀ i, W.frozen? ⟨C, i, none⟩ = false) := Lib.hid (fun l P v W hW => by
    have h1 : BlkIs _ _ C _ := hW.tf
    rw [hhalf.out] at h1
    exact ⟨BlkIs.cell h1 0, BlkIs.cell h1 1, BlkIs.cell h1 2, BlkIs.cell h1 4, BlkIs.free h1⟩)
  have HRN : Hid (∀ l v W, TfAt s.half l C P v W → Calls Tryz.prog 178 #[.pointer (some ⟨C, 0, none⟩), .int .i64 now] W fun e w' => e = .returned (.tuple #[]) ∧ TfAt (s.half.run (M.tfDue (M.tfWait s.half) now)) l C P v w' ∧ Kept [C] W w') := Lib.hid (fun l v W hW => tfRunOn_any s.half HOK.out.1 HOK.out.2 now hn l C P v W hW)
  have hk1 : (J : Int) + 1 = ((J + 1 : Nat) : Int) := by omega
  have hdiv : ((J : Int) + 1) / 2 = (K : Int) := by omega
  have hJi : (J : Int) < 18446744073709551615 := by omega
  have hwj : IntKind.u64.wrap ((J : Int) + 1) = (J : Int) + 1 := IntWalk.u64_in _ (by omega)
  have htd : ((J : Int) + 1).tdiv 2 = (K : Int) := by rw [Int.tdiv_eq_ediv_of_nonneg (by omega)]; exact hdiv
  have hwk : IntKind.u64.wrap (K : Int) = (K : Int) := IntWalk.u64_in _ (by omega)
  rw [HKK.out]
  have hdiv2 : (s.rate : Int) / 2 = (q : Int) := by omega
  have hz : (s.rtt != 0) = true := by rw [bne_iff_ne]; omega
  clear h hs hq hJ hK j4 hrun hsr HT0 hk0 hN hk1
  generalize s.rate = rt at *
  generalize s.size = sz at *
  go_enter Tryz.func350, Tryz.ntmps350
  go_upto_region 3 with (go_at_call 77; (with_reducible refine HM.out.mono ?_); rintro e w1 ⟨rfl, rfl⟩)
  go_region
  all_goals
    generalize (w.setCell ⟨C, 1, none⟩ (.int .u64 J)).drew = W1 at *
    obtain ⟨a0, a1, a2, a4, af⟩ := HCE.out _ _ _ _ HT.out
    go_upto_region 5 with fail
    have HT5 : Hid (TfAt s.half l C P v W1.drew) := Lib.hid (HT.out.drewN 1)
    go_region_with (go_at_call 225; (with_reducible refine (HON.out _ HT5.out).mono ?_); rintro e W2 ⟨rfl, g, c, hs2, hk2, hat2⟩)
    all_goals
      have HT2 : Hid (TfAt s.half [(N, K)] C P (.slice (some ⟨g, 0, none⟩) 1 c) W2) := Lib.hid ⟨BlkIs.kept HT5.out.tf hk2 HNC.out, hs2, HNE.out, fun q hq => by
        have hgq : g = q := by simpa [Value.ownBlock] using hq
        subst hgq
        rcases hat2 with h1 | h1
        · exact HNE2.out g h1
        · have h2 := HCL.out; have h3 := HK1.out.size; have h4 : W1.heap.size ≤ g := h1; omega⟩
      have HK2 : Hid (Kept (C :: P :: own v) w W2) := Lib.hid ((HK1.out.drew.more (by simp)).trans' (hk2.more (fun x hx => by simp at hx ⊢; right; exact hx)))
      have HV2 : Hid ((Value.slice (some ⟨g, 0, none⟩) 1 c).ownBlock = v.ownBlock ∨ ∃ q, (Value.slice (some ⟨g, 0, none⟩) 1 c).ownBlock = some q ∧ w.heap.size ≤ q) := Lib.hid (by
        rcases hat2 with h1 | h1
        · exact .inl (by rw [h1]; rfl)
        · exact .inr ⟨g, rfl, Nat.le_trans HK1.out.size h1⟩)
      clear hs2 hk2 hat2 a0 a1 a2 a4 af HON HT HT5
      obtain ⟨a0, a1, a2, a4, af⟩ := HCE.out _ _ _ _ HT2.out
      go_upto_region 6 with fail
      go_quiet (fail)
      have HT3 : Hid (TfAt s.half [(N, K)] C P (.slice (some ⟨g, 0, none⟩) 1 c) (W2.drewN nq)) := Lib.hid (HT2.out.drewN nq)
      have HK3 : Hid (Kept (C :: P :: own v) w (W2.drewN nq)) := Lib.hid (HK2.out.drewN nq)
      clear a0 a1 a2 a4 af hwj htd hwk hdiv hdiv2 j1 j2 j3 hd1
      generalize W2.drewN nq = W3 at *
      by_cases hJs : J = sz
      · rw [if_pos hJs] at HFI
        have hJE := Lib.hid (show (J : Int) = (sz : Int) by omega)
        clear hJs
        obtain ⟨a0, a1, a2, a4, af⟩ := HCE.out _ _ _ _ HT3.out
        have a7 : W3.cell? ⟨C, 7, none⟩ = some (.int .i64 s.due) := BlkIs.cell HT3.out.tf 7
        have a8 : W3.cell? ⟨C, 8, none⟩ = some (.bool s.runs) := BlkIs.cell HT3.out.tf 8
        have b7 := af 7
        have b8 := af 8
        clear af a0 a1 a2 a4
        rename_i KA hA KB hB
        simp only [Exit.then]
        refine hB _ _ ?_
        have HA := Lib.hid hA
        clear hB hA
        refine wp_cond_true (by first | rfl | (simp [Act.eval]; exact hJE.out)) ?_
        go_wp2
        refine HA.out _ _ ?_
        clear HA
        go_wp2
        go_ret
        have hk8 : Kept [C] W3 ((W3.setCell ⟨C, 7, none⟩ (.int .i64 0)).setCell ⟨C, 8, none⟩ (.bool false)) := ((Kept.refl _ _).setCell (.inl (by simp)) _).setCell (.inl (by simp)) _
        refine ⟨rfl, _, ⟨?_, HT3.out.set.kept hk8 (by simp; exact fun e => HNE.out e.symm) (fun q hq => by simp; exact HT3.out.ne2 q hq), HNE.out, HT3.out.ne2⟩, HK3.out.trans' (hk8.more (by simp)), HV2.out⟩
        rw [HFI.out]
        exact BlkIs.set (BlkIs.set HT3.out.tf 7 _) 8 _
      · rw [if_neg hJs] at HFI
        have hJb2 : ((J : Int) == (sz : Int)) = false := by rw [beq_eq_false_iff_ne]; omega
        have HRW := Lib.hid (HRN.out _ _ W3 HT3.out)
        rename_i KA hA KB hB
        simp only [Exit.then]
        refine hB _ _ ?_
        have HA := Lib.hid hA
        clear hB hA
        refine wp_cond_false (by first | rfl | (simp [Act.eval]; omega) | (simp [Act.eval])) ?_
        go_wp2_with (go_at_call 178; (with_reducible refine HRW.out.mono ?_); rintro e W4 ⟨rfl, ht4, hk4⟩)
        refine HA.out _ _ ?_
        clear HA
        go_wp2
        go_ret
        refine ⟨rfl, _, ?_, HK3.out.trans' (hk4.more (by simp)), HV2.out⟩
        rw [HFI.out]
        exact ht4
end Go.Proofs.YtnhlachoimlhhaaGreatDoor
