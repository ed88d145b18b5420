/-
  Package rset: Only, Maximize, Halve.
  Package tfrc: what it tells; waiting in vain.
  Package tfrc: what they let the rate be who were limited.
  Package tfrc: Hear: the first one or a later one; with loss, doubling, or neither.
  Package tfrc: Hear: a later one; with loss, doubling, or neither.
  Package tfrc: Hear at a steady time: what each leaves behind.
-/
import Derived.Test.YtljlgbjbhokhlaaGreatDoorSetM
import Derived.Test.YtljlgbjbhokhlaaGreatDoorPlace
import Derived.Deep.RegionLaw
import Derived.Test.YtljlgbjbhokhlaaGreatDoorTfD
namespace Go.Proofs.YtljlgbjbhokhlaaGreatDoor
open Go.ChangeShapes Go.WideShapes Go.ChangeAt Go.RowKit
set_option linter.unusedVariables false
set_option linter.unusedSimpArgs false

/-- The greatest of x and what was told. -/
def M.maxNT (l : List Pr) (x : Nat) : Nat := l.foldl (fun m p => if p.2 = 18446744073709551615 then m else max m p.2) x
theorem M.maxNT_snoc (l : List Pr) (x : Nat) (p : Pr) : M.maxNT (l ++ [p]) x = if p.2 = 18446744073709551615 then M.maxNT l x else max (M.maxNT l x) p.2 := by unfold M.maxNT; rw [List.foldl_append]; rfl
theorem M.maxNT_lt (l : List Pr) (x : Nat) (hx : x < 18446744073709551616) (h : ∀ p ∈ l, p.2 < 18446744073709551616) : M.maxNT l x < 18446744073709551616 := by
  unfold M.maxNT
  revert x
  induction l with
  | nil => intro m hm; exact hm
  | cons p l ih =>
    intro m hm
    rw [List.foldl_cons]
    refine ih (fun q hq => h q (by simp [hq])) _ ?_
    have := h p (by simp)
    split
    · exact hm
    · omega
/-- Each that was told, its half. -/
def M.halfPr (p : Pr) : Pr := if p.2 = 18446744073709551615 then p else (p.1, p.2 / 2)
theorem Kept.cellS {S : List Nat} {w w' : World} (k : Kept S w w') {p : Addr} (hlt : p.block < w.heap.size) (hn : p.block ∉ S) : w'.cell? p = w.cell? p := by
  unfold World.cell?
  rw [k.block _ hlt hn]
theorem Kept.frozenS {S : List Nat} {w w' : World} (k : Kept S w w') {p : Addr} (hlt : p.block < w.heap.size) (hn : p.block ∉ S) : w'.frozen? p = w.frozen? p := by
  unfold World.frozen?
  rw [k.block _ hlt hn]
theorem ownsRow_keptS {T sz n B : Nat} {v : Value} {xs : List Value} {S : List Nat} {w w' : World} (h : w.ownsRow B T sz v n xs) (k : Kept S w w') (hn : ∀ g, v.ownBlock = some g → g ∉ S) : w'.ownsRow B T sz v n xs := by
  refine ⟨h.1, ?_⟩
  rcases h.2 with hv | ⟨g, cap, cur, rfl, hb, hg, rest⟩
  · exact .inl hv
  · exact .inr ⟨g, cap, cur, rfl, hb, (k.block g (Array.getElem?_eq_some_iff.1 hg).1 (hn g rfl)).trans hg, rest⟩
set_option maxHeartbeats 2000000 in
set_option maxRecDepth 100000 in
theorem rsetOnly_any (l : List Pr) (h0 : 0 < l.length) (x : Nat) (now : Int) (N : Int) (hN : max 0 (min now 4611686018427387904) = N) (P : Nat) (v : Value) (w : World) (h : SetAt l P v w) :
    Calls Tryz.prog 97 #[.pointer (some ⟨P, 0, none⟩), .int .u64 x, .int .i64 now] w fun e w' => e = .returned (.tuple #[]) ∧ ∃ g c, SetAt [(N, x)] P (.slice (some ⟨g, 0, none⟩) 1 c) w' ∧ Kept (P :: own v) w w' ∧ (v.ownBlock = some g ∨ w.heap.size ≤ g) := by
  have HW := Lib.hid (fun W => rsetWithin_any now 4611686018427387904 (by decide) W)
  rw [hN] at HW
  obtain ⟨i0, hi, hz0, hz1, hz2⟩ := info_parts infoPr
  obtain ⟨g, c, hv, hc1, hc2, hg, hcell, hfr, cur, hcur⟩ := h.row.shape h0
  have hE : w.ownsRow 0 148 2 (.slice (some ⟨g, 0, none⟩) 0 c) 0 [] := by
    rcases h.row.2 with ⟨hv2, _⟩ | ⟨g', cap, cur', hv2, hB, hg', hcap, hcm, hs, ht⟩
    · rw [hv] at hv2; cases hv2
    · rw [hv] at hv2
      injection hv2 with e1 e2 e3
      injection e1 with e1
      injection e1 with e1
      subst e1 e3
      exact ⟨rfl, .inr ⟨g, c, cur', rfl, hB, hg', Nat.zero_le _, hcm, hs, by simp⟩⟩
  subst hv
  have c0 : w.cell? ⟨P, 0, none⟩ = some (.slice (some ⟨g, 0, none⟩) l.length c) := BlkIs.cell h.set 0
  have f0 := BlkIs.free h.set 0
  have HSET := Lib.hid h.set
  have HPL : Hid (P < w.heap.size ∧ g < w.heap.size ∧ g ≠ P) := Lib.hid ⟨h.set.lt, hg, h.ne g rfl⟩
  obtain ⟨B, hB⟩ : ∃ B, w.heap.size = B := ⟨_, rfl⟩
  have n0 : ∀ j o, ((w.drewN j).alloc o).cell? ⟨P, 0, none⟩ = some (.slice (some ⟨g, 0, none⟩) l.length c) := fun j o => ((HSET.out.drewN j).alloc o).cell 0
  have n1 : ∀ o, (w.alloc o).cell? ⟨P, 0, none⟩ = some (.slice (some ⟨g, 0, none⟩) l.length c) := fun o => (HSET.out.alloc o).cell 0
  have HRT : Hid (∀ j, ((w.drewN j).alloc (.cells #[.int .i64 N, .int .u64 x] 148)).ownsRow 0 148 2 (.slice (some ⟨g, 0, none⟩) 0 c) 0 []) := Lib.hid (fun j => ownsRow_keptS hE (((Kept.refl [] w).drewN j).alloc _) (by simp))
  have HNW : Hid (∀ j, ∀ i u, (prCells (N, x)).toList[i]? = some u → ((w.drewN j).alloc (.cells #[.int .i64 N, .int .u64 x] 148)).cell? ((⟨B, 0, none⟩ : Addr).add i) = some u) := Lib.hid (fun j => World.news_of_block (fr := (0, 0)) (t := 148) (by
    have := BlkIs.new (prCells (N, x)) 148 (w.drewN j)
    rw [show (w.drewN j).heap.size = B from hB] at this
    exact this))
  have HBK : Hid (∀ j, BlkIs #[.slice (some ⟨g, 0, none⟩) l.length c] 151 P ((w.drewN j).alloc (.cells #[.int .i64 N, .int .u64 x] 148))) := Lib.hid (fun j => (HSET.out.drewN j).alloc _)
  have HKE : Hid (∀ j, Kept (P :: [g]) w ((w.drewN j).alloc (.cells #[.int .i64 N, .int .u64 x] 148))) := Lib.hid (fun j => ((Kept.refl _ w).drewN j).alloc _)
  have HNE : Hid (some P ≠ some g) := Lib.hid (fun e => by injection e with e; exact HPL.out.2.2 e.symm)
  generalize l.length = L at *
  have HBe := Lib.hid hB
  clear h hcell hfr hcur hN hE
  go_enter Tryz.func97, Tryz.ntmps97
  go_wp2
  go_region_law (first
    | (go_simp; go_at_call 130; (with_reducible refine (HW.out _).mono ?_); rintro e w5 ⟨rfl, rfl⟩)
    | (refine step_append_lies _ rfl (.tmp 13) (.tmp 18) 149 rfl 0 148 i0 (.agg #[.int .i64 0, .int .u64 0]) 2 16 Tryz.underlying149 hi hz0 hz1 hz2 rfl (by decide) (.slice (some ⟨g, 0, none⟩) 0 c) 0 [] (by simp [Act.eval, Act.put]) (HRT.out _) ⟨B, 0, none⟩ 1 1 (prCells (N, x)).toList (by simp [Act.eval, Act.put]) rfl (HNW.out _) (by intro u hu; simp [prCells] at hu; rcases hu with rfl | rfl <;> rfl) (by decide) (by unfold maxLen; omega) (by omega) (Nat.zero_le _) _ rfl ?_; intro g2 cap2 w1 hown hgrow hat hlt; have hb1 := BlkIs.grown (HBK.out _) hgrow HNE.out; have hk1 := (HKE.out _).grown hgrow (fun q hq => .inl (by simp [Value.ownBlock] at hq; simp [hq])); have a1 : w1.cell? ⟨P, 0, none⟩ = some (.slice (some ⟨g, 0, none⟩) L c) := BlkIs.cell hb1 0; have f1 := BlkIs.free hb1 0))
  all_goals
    go_wp2
    go_end0
    have hat2 : some g = some g2 ∨ w.heap.size ≤ g2 := by
      rcases hat with h1 | h1
      · exact .inl h1
      · right; have h2 := (HKE.out 0).size; have h3 := HBe.out; simp at h1; omega
    have hgP : g2 ≠ P := by
      rcases hat2 with h1 | h1
      · injection h1 with h1; have := HPL.out.2.2; omega
      · have := HPL.out.1; omega
    have hr1 : PrRow [(N, x)] (.slice (some ⟨g2, 0, none⟩) 1 cap2) w1 := hown
    refine ⟨rfl, g2, cap2, ⟨hb1.set 0 _, hr1.kept ((Kept.refl [P] w1).setCell (.inl (by simp)) _) (fun q hq => ?_)⟩, hk1.setCell (.inl (by simp)) _, hat2⟩
    have : g2 = q := by simpa [Value.ownBlock] using hq
    simp; omega
set_option maxHeartbeats 2000000 in
theorem rsetMaximize_any (l : List Pr) (hl : l.length ≤ 8) (h0 : 0 < l.length) (hsm : ∀ p ∈ l, p.2 < 18446744073709551616) (x : Nat) (hx : x < 18446744073709551616) (now : Int) (N : Int) (hN : max 0 (min now 4611686018427387904) = N) (P : Nat) (v : Value) (w : World) (h : SetAt l P v w) :
    Calls Tryz.prog 128 #[.pointer (some ⟨P, 0, none⟩), .int .u64 x, .int .i64 now] w fun e w' => e = .returned (.tuple #[]) ∧ ∃ g c, SetAt [(N, M.maxNT l x)] P (.slice (some ⟨g, 0, none⟩) 1 c) w' ∧ Kept (P :: own v) w w' ∧ (v.ownBlock = some g ∨ w.heap.size ≤ g) := by
  have c0 : w.cell? ⟨P, 0, none⟩ = some v := BlkIs.cell h.set 0
  have HON := Lib.hid (fun W (hW : SetAt l P v W) => rsetOnly_any l h0 (M.maxNT l x) now N hN P v W hW)
  obtain ⟨g, c, rfl, hc1, hc2, hg, hcell, _, _⟩ := h.row.shape h0
  have HCELL := Lib.hid hcell
  have HH := Lib.hid h
  obtain ⟨L, hL⟩ : ∃ L, l.length = L := ⟨_, rfl⟩
  have HL := Lib.hid hL
  rw [hL] at h0 hc1 hl HCELL c0 HON HH
  clear h hcell hL hN hsm
  have hown : own (.slice (some ⟨g, 0, none⟩) l.length c) = [g] := rfl
  go_enter Tryz.func128, Tryz.ntmps128
  go_wp2
  go_loopw [1, 15] (fun a i wr => ∃ k : Nat, k ≤ L ∧ i = .int .i64 (k : Int) ∧ a = .int .u64 (M.maxNT (l.take k) x) ∧ Hid (Below w.heap.size w wr)) (fun _ i _ => L - (intOf i).toNat)
  case atStart => exact ⟨0, Nat.zero_le _, rfl, rfl, Lib.hid (Below.refl _ _)⟩
  case round =>
    obtain ⟨k, hk, rfl, rfl, hb⟩ := hrel
    by_cases hlt2 : k < L
    · obtain ⟨x0, x1⟩ := HCELL.out k hlt2
      rw [← hb.out.cell (p := ⟨g, k * 2, none⟩) hg] at x0
      rw [← hb.out.cell (p := ⟨g, k * 2 + 1, none⟩) hg] at x1
      have e : Hid (M.maxNT (l.take (k + 1)) x = if (l.getD k (0, 0)).2 = 18446744073709551615 then M.maxNT (l.take k) x else max (M.maxNT (l.take k) x) (l.getD k (0, 0)).2) := Lib.hid (by rw [take_snocP l k (by rw [HL.out]; exact hlt2), M.maxNT_snoc])
      generalize l.getD k (0, 0) = p at *
      obtain ⟨a, y⟩ := p
      simp only at x0 x1 e
      generalize M.maxNT (l.take k) x = m at *
      by_cases hy : y = 18446744073709551615
      · rw [if_pos hy] at e
        have hyb : ((y : Int) != 18446744073709551615) = false := by rw [bne_eq_false_iff_eq]; omega
        go_wp2
        go_roundw
        case rel => exact ⟨k + 1, by omega, by go_num, by rw [e.out], Lib.hid (bel_trans hb.out (bel_trans (bel_alloc _ _) (by first | exact (Below.refl _ _).setCell (Nat.le_refl _) _ | exact Below.refl _ _)))⟩
        case measure => simp [intOf]; omega
      · rw [if_neg hy] at e
        have hyb : ((y : Int) != 18446744073709551615) = true := by rw [bne_iff_ne]; omega
        obtain ⟨R, hR⟩ : ∃ R, max m y = R := ⟨_, rfl⟩
        have i1 : (if (m : Int) < (y : Int) then (y : Int) else (m : Int)) = (R : Int) := by split <;> omega
        have i2 : max (m : Int) (y : Int) = (R : Int) := by omega
        have i3 : (if m < y then (y : Int) else (m : Int)) = (R : Int) := by split <;> omega
        rw [hR] at e
        clear hR
        go_wp2
        go_roundw
        case rel => exact ⟨k + 1, by omega, by go_num, by rw [e.out], Lib.hid (bel_trans hb.out (bel_trans (bel_alloc _ _) (by first | exact (Below.refl _ _).setCell (Nat.le_refl _) _ | exact Below.refl _ _)))⟩
        case measure => simp [intOf]; omega
    · have e : Hid (M.maxNT l x = M.maxNT (l.take k) x) := Lib.hid (by rw [List.take_of_length_le (by rw [HL.out]; omega)])
      rw [e.out] at HON
      generalize M.maxNT (l.take k) x = m at *
      go_wp2_with (go_at_call 97; (with_reducible refine (HON.out wr (HH.out.below hb.out)).mono ?_); rintro e w1 ⟨rfl, g2, c2, hs2, hk2, hat2⟩)
      go_end0
      rw [e.out]
      refine ⟨rfl, g2, c2, hs2, (Kept.of_below _ hb.out).trans' hk2, ?_⟩
      rcases hat2 with h1 | h1
      · exact .inl h1
      · right; exact Nat.le_trans hb.out.size h1
theorem prList_set (l : List Pr) : ∀ (k : Nat), k < l.length → ∀ y : Nat, (prList l).set (k * 2 + 1) (.int .u64 y) = prList (l.set k ((l.getD k (0, 0)).1, y)) := by
  induction l with
  | nil => intro k hk; simp at hk
  | cons p l ih =>
    intro k hk y
    cases k with
    | zero => rfl
    | succ k =>
      have := ih k (by simpa using hk) y
      rw [List.set_cons_succ, List.getD_cons_succ]
      show ([Value.int .i64 p.1, .int .u64 p.2] ++ prList l).set ((k + 1) * 2 + 1) _ = [Value.int .i64 p.1, .int .u64 p.2] ++ prList _
      rw [List.set_append_right _ _ (by simp; omega), ← this]
      congr 2
      simp only [List.length_cons, List.length_nil]
      omega
/-- A pair's rate is written. -/
theorem SetAt.setRate {l : List Pr} {P g c : Nat} {w : World} (h : SetAt l P (.slice (some ⟨g, 0, none⟩) l.length c) w) (k : Nat) (hk : k < l.length) (y : Nat) : SetAt (l.set k ((l.getD k (0, 0)).1, y)) P (.slice (some ⟨g, 0, none⟩) l.length c) (w.setCell ⟨g, k * 2 + 1, none⟩ (.int .u64 y)) := by
  have hgP := h.ne g rfl
  refine ⟨h.set.far (fun e => hgP e.symm) _, ?_⟩
  rcases h.row.2 with ⟨hv, h0⟩ | ⟨g', cap, cur, hv, hB, hg', hcap, hcm, hs, ht⟩
  · cases hv
  · injection hv with e1 e2 e3
    injection e1 with e1
    injection e1 with e1
    subst e1 e3
    have hll : (l.set k ((l.getD k (0, 0)).1, y)).length = l.length := List.length_set
    refine ⟨by rw [prList_len, hll], .inr ⟨g, c, cur.setIfInBounds (k * 2 + 1) (.int .u64 y), by rw [hll], hB, heap_setCell_same w g _ _ _ _ hg', by rw [hll]; exact hcap, hcm, by rw [Array.size_setIfInBounds]; exact hs, ?_⟩⟩
    rw [hll, Array.toList_setIfInBounds, List.take_set, ht]
    exact prList_set l k hk y
/-- The first k of them halved. -/
def M.halfUp (l : List Pr) (k : Nat) : List Pr := (l.take k).map M.halfPr ++ l.drop k
theorem M.halfUp_len (l : List Pr) (k : Nat) (hk : k ≤ l.length) : (M.halfUp l k).length = l.length := by unfold M.halfUp; rw [List.length_append, List.length_map, List.length_take, List.length_drop]; omega
theorem M.halfUp_get (l : List Pr) (k : Nat) (hk : k < l.length) : (M.halfUp l k).getD k (0, 0) = l.getD k (0, 0) := by
  unfold M.halfUp
  rw [List.getD_eq_getElem?_getD, List.getElem?_append_right (by rw [List.length_map, List.length_take]; omega), List.length_map, List.length_take, Nat.min_eq_left (by omega), Nat.sub_self, List.getElem?_drop, Nat.add_zero, ← List.getD_eq_getElem?_getD]
theorem M.halfUp_succ (l : List Pr) (k : Nat) (hk : k < l.length) : M.halfUp l (k + 1) = (M.halfUp l k).set k (M.halfPr (l.getD k (0, 0))) := by
  unfold M.halfUp
  rw [List.set_append_right _ _ (by rw [List.length_map, List.length_take]; omega), List.length_map, List.length_take, Nat.min_eq_left (by omega), Nat.sub_self, take_snocP l k hk, List.map_append, List.append_assoc]
  congr 1
  rw [List.drop_eq_getElem_cons hk]
  rfl
theorem M.halfUp_all (l : List Pr) : M.halfUp l l.length = l.map M.halfPr := by unfold M.halfUp; rw [List.take_length, List.drop_length, List.append_nil]
theorem set_sameP (l : List Pr) (k : Nat) (hk : k < l.length) : l.set k (l.getD k (0, 0)) = l := by
  rw [List.getD_eq_getElem?_getD, List.getElem?_eq_getElem hk]
  exact List.set_getElem_self hk
set_option maxHeartbeats 2000000 in
theorem rsetHalve_any (l : List Pr) (hl : l.length ≤ 8) (h0 : 0 < l.length) (hsm : ∀ p ∈ l, p.2 < 18446744073709551616) (P : Nat) (v : Value) (w : World) (h : SetAt l P v w) :
    Calls Tryz.prog 127 #[.pointer (some ⟨P, 0, none⟩)] w fun e w' => e = .returned (.tuple #[]) ∧ SetAt (l.map M.halfPr) P v w' ∧ Kept (P :: own v) w w' := by
  have c0 : w.cell? ⟨P, 0, none⟩ = some v := BlkIs.cell h.set 0
  obtain ⟨g, c, rfl, hc1, hc2, hg, hcell, hfr, _⟩ := h.row.shape h0
  have HH := Lib.hid h
  have HGP : Hid (g ≠ P) := Lib.hid (h.ne g rfl)
  obtain ⟨L, hL⟩ : ∃ L, l.length = L := ⟨_, rfl⟩
  have HL := Lib.hid hL
  have HO : Hid (own (.slice (some ⟨g, 0, none⟩) l.length c) = [g]) := Lib.hid rfl
  rw [hL] at h0 hc1 hl c0 HO HH ⊢
  rw [HO.out]
  have HSMM := Lib.hid hsm
  clear h hcell hfr hL hsm
  go_enter Tryz.func127, Tryz.ntmps127
  go_wp2
  go_loopw [11] (fun i wr => ∃ k : Nat, k ≤ L ∧ i = .int .i64 (k : Int) ∧ Hid (SetAt (M.halfUp l k) P (.slice (some ⟨g, 0, none⟩) L c) wr) ∧ Hid (Kept [P, g] w wr)) (fun i _ => L - (intOf i).toNat)
  case atStart => exact ⟨0, Nat.zero_le _, rfl, HH, Lib.hid (Kept.refl _ _)⟩
  case round =>
    obtain ⟨k, hk, rfl, hs, hkp⟩ := hrel
    by_cases hlt2 : k < L
    · have hUl := M.halfUp_len l k (by rw [HL.out]; exact hk)
      rw [HL.out] at hUl
      obtain ⟨g', c', e, _, _, hg', hcell, hfr, _⟩ := hs.out.row.shape (by rw [hUl]; omega)
      injection e with e1 e2 e3
      injection e1 with e1
      injection e1 with e1
      subst e1 e3
      obtain ⟨x0, x1⟩ := hcell k (by rw [hUl]; exact hlt2)
      rw [M.halfUp_get l k (by rw [HL.out]; exact hlt2)] at x0 x1
      have f1 := hfr (k * 2 + 1)
      have HSU : Hid (M.halfUp l (k + 1) = (M.halfUp l k).set k (M.halfPr (l.getD k (0, 0)))) := Lib.hid (M.halfUp_succ l k (by rw [HL.out]; exact hlt2))
      have HSM : Hid ((M.halfUp l k).set k (l.getD k (0, 0)) = M.halfUp l k) := Lib.hid (by
        have h1 := set_sameP (M.halfUp l k) k (by rw [hUl]; exact hlt2)
        rw [M.halfUp_get l k (by rw [HL.out]; exact hlt2)] at h1
        exact h1)
      have HSR : Hid (∀ W y, SetAt (M.halfUp l k) P (.slice (some ⟨g, 0, none⟩) L c) W → SetAt ((M.halfUp l k).set k ((l.getD k (0, 0)).1, y)) P (.slice (some ⟨g, 0, none⟩) L c) (W.setCell ⟨g, k * 2 + 1, none⟩ (.int .u64 y))) := Lib.hid (fun W y hW => by
        have h1 := SetAt.setRate (l := M.halfUp l k) (P := P) (g := g) (c := c) (w := W) (by rw [hUl]; exact hW) k (by rw [hUl]; exact hlt2) y
        rw [M.halfUp_get l k (by rw [HL.out]; exact hlt2), hUl] at h1
        exact h1)
      have n0 : ∀ o, (wr.alloc o).cell? ⟨P, 0, none⟩ = some (.slice (some ⟨g, 0, none⟩) L c) := fun o => (hs.out.set.alloc o).cell 0
      have n1 : wr.cell? ⟨P, 0, none⟩ = some (.slice (some ⟨g, 0, none⟩) L c) := hs.out.set.cell 0
      have n2 : ∀ o i, (wr.alloc o).frozen? ⟨g, i, none⟩ = false := fun o i => by
        have h1 := ((Kept.refl [] wr).alloc o).frozenS (p := ⟨g, i, none⟩) hg' (by simp)
        rw [h1]; exact hfr i
      have n3 : ∀ o, (wr.alloc o).cell? ⟨g, k * 2 + 1, none⟩ = some (.int .u64 (l.getD k (0, 0)).2) := fun o => by
        rw [((Kept.refl [] wr).alloc o).cellS (p := ⟨g, k * 2 + 1, none⟩) hg' (by simp)]; exact x1
      have HNG : Hid (wr.heap.size ≠ g ∧ wr.heap.size ≠ P) := Lib.hid ⟨by omega, by have := hs.out.set.lt; omega⟩
      obtain ⟨p, hp⟩ : ∃ p, l.getD k (0, 0) = p := ⟨_, rfl⟩
      have hpb : p.2 < 18446744073709551616 := by
        rw [← hp, List.getD_eq_getElem?_getD, List.getElem?_eq_getElem (by rw [HL.out]; exact hlt2)]
        exact HSMM.out _ (List.getElem_mem _)
      rw [hp] at x0 x1 HSU HSM HSR n3
      obtain ⟨a, y⟩ := p
      simp only at x0 x1 HSR n3 hpb
      clear hp hcell hfr e2
      by_cases hy : y = 18446744073709551615
      · have hyb : ((y : Int) != 18446744073709551615) = false := by rw [bne_eq_false_iff_eq]; omega
        have HU2 : Hid (M.halfUp l (k + 1) = M.halfUp l k) := Lib.hid (by rw [HSU.out, show M.halfPr (a, y) = (a, y) from if_pos hy]; exact HSM.out)
        go_wp2
        go_roundw
        case rel => exact ⟨k + 1, by omega, by go_num, Lib.hid (by rw [HU2.out]; exact hs.out.below (bel_alloc _ _)), Lib.hid (hkp.out.alloc _)⟩
        case measure => simp [intOf]; omega
      · have hyb : ((y : Int) != 18446744073709551615) = true := by rw [bne_iff_ne]; omega
        obtain ⟨R, hR⟩ : ∃ R, y / 2 = R := ⟨_, rfl⟩
        have i1 : (y : Int) / 2 = (R : Int) := by omega
        have hRb : (R : Int) ≤ 9223372036854775807 := by omega
        have HU2 : Hid (M.halfUp l (k + 1) = (M.halfUp l k).set k (a, R)) := Lib.hid (by rw [HSU.out, show M.halfPr (a, y) = (a, y / 2) from if_neg hy, hR])
        clear hR
        go_wp2
        go_region
        all_goals
          go_wp2
          refine ⟨⟨k + 1, by omega, by go_num, Lib.hid ?_, Lib.hid ?_⟩, ?_⟩
          · rw [HU2.out]
            exact ((HSR.out _ R hs.out).below (bel_alloc _ _)).drewN 1
          · exact ((hkp.out.setCell (.inl (by simp)) _).alloc _).drew
          · simp [intOf]; omega
    · obtain rfl : k = L := by omega
      have hs2 := hs.out
      rw [show M.halfUp l k = l.map M.halfPr by rw [← HL.out]; exact M.halfUp_all l] at hs2
      have HS2 := Lib.hid hs2
      clear hs hs2
      go_wp2
      go_end0
      exact ⟨rfl, HS2.out, hkp.out⟩
end Go.Proofs.YtljlgbjbhokhlaaGreatDoor

namespace Go.Proofs.YtljlgbjbhokhlaaGreatDoor
open Go.ChangeShapes Go.WideShapes Go.ChangeAt Go.RowKit
set_option linter.unusedVariables false
set_option linter.unusedSimpArgs false

theorem tfDue_any (s : TfS) (hs : s.ok) (l : List Pr) (C P : Nat) (v : Value) (w : World) (h : TfAt s l C P v w) :
    Calls Tryz.prog 40 #[.pointer (some ⟨C, 0, none⟩)] w fun e w' => e = .returned (.tuple #[.int .i64 s.due, .bool s.runs]) ∧ ∃ n, w' = w.drewN n := by
  have HM := Lib.hid (tfMade_any s hs l C P v w h)
  have c7 : w.cell? ⟨C, 7, none⟩ = some (.int .i64 s.due) := BlkIs.cell h.tf 7
  have c8 : w.cell? ⟨C, 8, none⟩ = some (.bool s.runs) := BlkIs.cell h.tf 8
  clear h hs
  go_enter Tryz.func40, Tryz.ntmps40
  go_wp2_with (go_at_call 90; (with_reducible refine HM.out.mono ?_); rintro e w1 ⟨rfl, rfl⟩)
  go_quiet (fail)
  go_wp2
  go_ret2
  exact ⟨rfl, _, rfl⟩
theorem tfLoss_any (s : TfS) (hs : s.ok) (l : List Pr) (C P : Nat) (v : Value) (w : World) (h : TfAt s l C P v w) :
    Calls Tryz.prog 56 #[.pointer (some ⟨C, 0, none⟩)] w fun e w' => e = .returned (.int .u64 s.loss) ∧ w = w' := by
  have HM := Lib.hid (tfMade_any s hs l C P v w h)
  have c3 : w.cell? ⟨C, 3, none⟩ = some (.int .u64 s.loss) := BlkIs.cell h.tf 3
  clear h hs
  go_enter Tryz.func56, Tryz.ntmps56
  go_wp2_with (go_at_call 90; (with_reducible refine HM.out.mono ?_); rintro e w1 ⟨rfl, rfl⟩)
  go_ret
  exact ⟨rfl, rfl⟩
theorem tfTop_any (s : TfS) (hs : s.ok) (l : List Pr) (hl : l.length ≤ 1000) (h0 : 0 < l.length) (C P : Nat) (v : Value) (w : World) (h : TfAt s l C P v w) :
    Calls Tryz.prog 54 #[.pointer (some ⟨C, 0, none⟩)] w fun e w' => e = .returned (.int .u64 (M.maxPr l)) ∧ Below w.heap.size w w' := by
  have HM := Lib.hid (tfMade_any s hs l C P v w h)
  have HX := Lib.hid (rsetMax_any l hl h0 P v w h.set)
  have c4 : w.cell? ⟨C, 4, none⟩ = some (.pointer (some ⟨P, 0, none⟩)) := BlkIs.cell h.tf 4
  clear h hs
  generalize M.maxPr l = m at *
  go_enter Tryz.func54, Tryz.ntmps54
  go_wp2_with (first
    | (go_at_call 90; (with_reducible refine HM.out.mono ?_); rintro e w1 ⟨rfl, rfl⟩)
    | (go_at_call 70; (with_reducible refine HX.out.mono ?_); rintro e w1 ⟨rfl, hb1⟩))
  go_ret
  exact ⟨rfl, hb1⟩
theorem tfFire_no (s : TfS) (hs : s.ok) (now : Int) (hd : s.runs = false ∨ now < s.due) (l : List Pr) (C P : Nat) (v : Value) (w : World) (h : TfAt s l C P v w) :
    Calls Tryz.prog 41 #[.pointer (some ⟨C, 0, none⟩), .int .i64 now] w fun e w' => e = .returned (.bool false) ∧ ∃ n, w' = w.drewN n := by
  have HM := Lib.hid (tfMade_any s hs l C P v w h)
  have c7 : w.cell? ⟨C, 7, none⟩ = some (.int .i64 s.due) := BlkIs.cell h.tf 7
  have c8 : w.cell? ⟨C, 8, none⟩ = some (.bool s.runs) := BlkIs.cell h.tf 8
  clear h hs
  cases hr : s.runs with
  | false =>
    rw [hr] at c8
    clear hd
    go_enter Tryz.func41, Tryz.ntmps41
    go_wp2_with (go_at_call 90; (with_reducible refine HM.out.mono ?_); rintro e w1 ⟨rfl, rfl⟩)
    go_ret
    exact ⟨rfl, 0, rfl⟩
  | true =>
    rw [hr] at c8
    have hd1 : decide (now < s.due) = true := decide_eq_true (by rcases hd with hd | hd; · rw [hr] at hd; cases hd
                                                                 · exact hd)
    clear hd
    go_enter Tryz.func41, Tryz.ntmps41
    go_wp2_with (go_at_call 90; (with_reducible refine HM.out.mono ?_); rintro e w1 ⟨rfl, rfl⟩)
    go_ret
    exact ⟨rfl, 0, rfl⟩
/-- The half, or the least. -/
def TfS.half (s : TfS) : TfS := { s with rate := max (s.rate / 2) s.size }
def TfS.fire (s : TfS) (now : Int) : TfS := if s.half.rate = s.size then { s.half with due := 0, runs := false } else s.half.run (M.tfDue (M.tfWait s.half) now)
theorem TfS.half_ok {s : TfS} (hs : s.ok) (hsr : s.size ≤ s.rate) : s.half.ok := ⟨hs.b0, by have := hs.b1; have := hs.b0; unfold TfS.half; simp only; omega, hs.b2, hs.b3, hs.b4⟩
theorem TfS.fire_rate (s : TfS) (now : Int) : (s.fire now).rate = max (s.rate / 2) s.size := by unfold TfS.fire; split <;> rfl
theorem TfS.fire_size (s : TfS) (now : Int) : (s.fire now).size = s.size := by unfold TfS.fire; split <;> rfl
theorem TfS.fire_rtt (s : TfS) (now : Int) : (s.fire now).rtt = s.rtt := by unfold TfS.fire; split <;> rfl
theorem TfS.fire_ok {s : TfS} (hs : s.ok) (hsr : s.size ≤ s.rate) (now : Int) : (s.fire now).ok := by
  obtain ⟨a, b, c, d, e⟩ := TfS.half_ok hs hsr
  unfold TfS.fire
  split <;> exact ⟨a, b, c, d, e⟩
theorem own_nin {v : Value} {C P : Nat} (hne : C ≠ P) (h : ∀ g, v.ownBlock = some g → g ≠ C) : C ∉ P :: own v := by
  intro hm
  rcases List.mem_cons.1 hm with h1 | h1
  · exact hne h1
  · unfold own at h1
    cases hv : v.ownBlock with
    | none => rw [hv] at h1; simp at h1
    | some g => rw [hv] at h1; simp at h1; exact h g hv h1.symm
set_option maxHeartbeats 2000000 in
set_option maxRecDepth 100000 in
theorem tfFire_yes (s : TfS) (hs : s.ok) (hr : 1 ≤ s.rtt) (hsr : s.size ≤ s.rate) (hrun : s.runs = true) (now : Int) (hn : -9223372036854775808 ≤ now ∧ now ≤ 9223372036854775807) (hd : s.due ≤ now) (N : Int) (hN : max 0 (min now 4611686018427387904) = N)
    (l : List Pr) (h0 : 0 < l.length) (C P : Nat) (v : Value) (w : World) (h : TfAt s l C P v w) :
    Calls Tryz.prog 41 #[.pointer (some ⟨C, 0, none⟩), .int .i64 now] w fun e w' => e = .returned (.bool true) ∧
      ∃ v', TfAt (s.fire now) [(N, (s.half.rate + 1) / 2)] C P v' w' ∧ Kept (C :: P :: own v) w w' ∧ (v'.ownBlock = v.ownBlock ∨ ∃ g, v'.ownBlock = some g ∧ w.heap.size ≤ g) := by
  have HM := Lib.hid (tfMade_any s hs l C P v w h)
  have c0 : w.cell? ⟨C, 0, none⟩ = some (.int .u64 s.size) := BlkIs.cell h.tf 0
  have c1 : w.cell? ⟨C, 1, none⟩ = some (.int .u64 s.rate) := BlkIs.cell h.tf 1
  have c7 : w.cell? ⟨C, 7, none⟩ = some (.int .i64 s.due) := BlkIs.cell h.tf 7
  have c8 : w.cell? ⟨C, 8, none⟩ = some (.bool s.runs) := BlkIs.cell h.tf 8
  have f1 := BlkIs.free h.tf 1
  rw [hrun] at c8
  have hd1 : decide (now < s.due) = false := decide_eq_false (by omega)
  obtain ⟨b1, b2⟩ := hs.b0
  have hb3 := hs.b1
  obtain ⟨q, hq⟩ : ∃ q, s.rate / 2 = q := ⟨_, rfl⟩
  obtain ⟨J, hJ⟩ : ∃ J, max q s.size = J := ⟨_, rfl⟩
  have hhalf : Hid (s.half = { s with rate := J }) := Lib.hid (by unfold TfS.half; rw [hq, hJ])
  obtain ⟨j1, j2, j3, j4, j5, j6⟩ := mxs q s.size J hJ
  have hJb : J < 18446744073709551615 := by omega
  obtain ⟨K, hK⟩ : ∃ K, (J + 1) / 2 = K := ⟨_, rfl⟩
  have hk0 : Kept [C] w (w.setCell ⟨C, 1, none⟩ (.int .u64 J)) := (Kept.refl _ _).setCell (.inl (by simp)) _
  have HT0 : TfAt s.half l C P v (w.setCell ⟨C, 1, none⟩ (.int .u64 J)) := by
    rw [hhalf.out]
    exact ⟨BlkIs.set h.tf 1 _, h.set.kept hk0 (by simp; exact fun e => h.ne e.symm) (fun g hg => by simp; exact h.ne2 g hg), h.ne, h.ne2⟩
  have HT : Hid (TfAt s.half l C P v ((w.setCell ⟨C, 1, none⟩ (.int .u64 J)).drew)) := Lib.hid (HT0.drewN 1)
  have HK1 : Hid (Kept [C] w ((w.setCell ⟨C, 1, none⟩ (.int .u64 J)).drew)) := Lib.hid hk0.drew
  have HOK : Hid (s.half.ok ∧ s.half.size ≤ s.half.rate) := Lib.hid ⟨TfS.half_ok hs hsr, by rw [hhalf.out]; exact j6⟩
  have HON := Lib.hid (fun W (hW : TfAt s.half l C P v W) => rsetOnly_any l h0 K now N hN P v W hW.set)
  have HNE := Lib.hid h.ne
  have HNC := Lib.hid (own_nin h.ne h.ne2)
  have HNE2 : Hid (∀ g, v.ownBlock = some g → g ≠ C) := Lib.hid h.ne2
  have HCL : Hid (C < w.heap.size) := Lib.hid h.tf.lt
  have HFI : Hid (s.fire now = if J = s.size then { s.half with due := 0, runs := false } else s.half.run (M.tfDue (M.tfWait s.half) now)) := Lib.hid (by unfold TfS.fire; rw [hhalf.out])
  have HKK : Hid ((s.half.rate + 1) / 2 = K) := Lib.hid (by rw [hhalf.out]; exact hK)
  have HCE : Hid (∀ l P v W, TfAt s.half l C P v W → W.cell? ⟨C, 0, none⟩ = some (.int .u64 s.size) ∧ W.cell? ⟨C, 1, none⟩ = some (.int .u64 J) ∧ W.cell? ⟨C, 2, none⟩ = some (.int .i64 s.rtt) ∧ W.cell? ⟨C, 4, none⟩ = some (.pointer (some ⟨P, 0, none⟩)) ∧ ∀ i, W.frozen? ⟨C, i, none⟩ = false) := Lib.hid (fun l P v W hW => by
    have h1 : BlkIs _ _ C _ := hW.tf
    rw [hhalf.out] at h1
    exact ⟨BlkIs.cell h1 0, BlkIs.cell h1 1, BlkIs.cell h1 2, BlkIs.cell h1 4, BlkIs.free h1⟩)
  have HRN : Hid (∀ l v W, TfAt s.half l C P v W → Calls Tryz.prog 96 #[.pointer (some ⟨C, 0, none⟩), .int .i64 now] W fun e w' => e = .returned (.tuple #[]) ∧ TfAt (s.half.run (M.tfDue (M.tfWait s.half) now)) l C P v w' ∧ Kept [C] W w') := Lib.hid (fun l v W hW => tfRunOn_any s.half HOK.out.1 HOK.out.2 now hn l C P v W hW)
  have hk1 : (J : Int) + 1 = ((J + 1 : Nat) : Int) := by omega
  have hdiv : ((J : Int) + 1) / 2 = (K : Int) := by omega
  have hJi : (J : Int) < 18446744073709551615 := by omega
  have hwj : IntKind.u64.wrap ((J : Int) + 1) = (J : Int) + 1 := IntWalk.u64_in _ (by omega)
  have htd : ((J : Int) + 1).tdiv 2 = (K : Int) := by rw [Int.tdiv_eq_ediv_of_nonneg (by omega)]; exact hdiv
  have hwk : IntKind.u64.wrap (K : Int) = (K : Int) := IntWalk.u64_in _ (by omega)
  rw [HKK.out]
  have hdiv2 : (s.rate : Int) / 2 = (q : Int) := by omega
  have hz : (s.rtt != 0) = true := by rw [bne_iff_ne]; omega
  clear h hs hq hJ hK j4 hrun hsr HT0 hk0 hN hk1
  generalize s.rate = rt at *
  generalize s.size = sz at *
  go_enter Tryz.func41, Tryz.ntmps41
  go_upto_region 3 with (go_at_call 90; (with_reducible refine HM.out.mono ?_); rintro e w1 ⟨rfl, rfl⟩)
  go_region
  all_goals
    generalize (w.setCell ⟨C, 1, none⟩ (.int .u64 J)).drew = W1 at *
    obtain ⟨a0, a1, a2, a4, af⟩ := HCE.out _ _ _ _ HT.out
    go_upto_region 5 with fail
    have HT5 : Hid (TfAt s.half l C P v W1.drew) := Lib.hid (HT.out.drewN 1)
    go_region_with (go_at_call 97; (with_reducible refine (HON.out _ HT5.out).mono ?_); rintro e W2 ⟨rfl, g, c, hs2, hk2, hat2⟩)
    all_goals
      have HT2 : Hid (TfAt s.half [(N, K)] C P (.slice (some ⟨g, 0, none⟩) 1 c) W2) := Lib.hid ⟨BlkIs.kept HT5.out.tf hk2 HNC.out, hs2, HNE.out, fun q hq => by
        have hgq : g = q := by simpa [Value.ownBlock] using hq
        subst hgq
        rcases hat2 with h1 | h1
        · exact HNE2.out g h1
        · have h2 := HCL.out; have h3 := HK1.out.size; have h4 : W1.heap.size ≤ g := h1; omega⟩
      have HK2 : Hid (Kept (C :: P :: own v) w W2) := Lib.hid ((HK1.out.drew.more (by simp)).trans' (hk2.more (fun x hx => by simp at hx ⊢; right; exact hx)))
      have HV2 : Hid ((Value.slice (some ⟨g, 0, none⟩) 1 c).ownBlock = v.ownBlock ∨ ∃ q, (Value.slice (some ⟨g, 0, none⟩) 1 c).ownBlock = some q ∧ w.heap.size ≤ q) := Lib.hid (by
        rcases hat2 with h1 | h1
        · exact .inl (by rw [h1]; rfl)
        · exact .inr ⟨g, rfl, Nat.le_trans HK1.out.size h1⟩)
      clear hs2 hk2 hat2 a0 a1 a2 a4 af HON HT HT5
      obtain ⟨a0, a1, a2, a4, af⟩ := HCE.out _ _ _ _ HT2.out
      go_upto_region 6 with fail
      go_quiet (fail)
      have HT3 : Hid (TfAt s.half [(N, K)] C P (.slice (some ⟨g, 0, none⟩) 1 c) (W2.drewN nq)) := Lib.hid (HT2.out.drewN nq)
      have HK3 : Hid (Kept (C :: P :: own v) w (W2.drewN nq)) := Lib.hid (HK2.out.drewN nq)
      clear a0 a1 a2 a4 af hwj htd hwk hdiv hdiv2 j1 j2 j3 hd1
      generalize W2.drewN nq = W3 at *
      by_cases hJs : J = sz
      · rw [if_pos hJs] at HFI
        have hJE := Lib.hid (show (J : Int) = (sz : Int) by omega)
        clear hJs
        obtain ⟨a0, a1, a2, a4, af⟩ := HCE.out _ _ _ _ HT3.out
        have a7 : W3.cell? ⟨C, 7, none⟩ = some (.int .i64 s.due) := BlkIs.cell HT3.out.tf 7
        have a8 : W3.cell? ⟨C, 8, none⟩ = some (.bool s.runs) := BlkIs.cell HT3.out.tf 8
        have b7 := af 7
        have b8 := af 8
        clear af a0 a1 a2 a4
        rename_i KA hA KB hB
        simp only [Exit.then]
        refine hB _ _ ?_
        have HA := Lib.hid hA
        clear hB hA
        refine wp_cond_true (by first | rfl | (simp [Act.eval]; exact hJE.out)) ?_
        go_wp2
        refine HA.out _ _ ?_
        clear HA
        go_wp2
        go_ret
        have hk8 : Kept [C] W3 ((W3.setCell ⟨C, 7, none⟩ (.int .i64 0)).setCell ⟨C, 8, none⟩ (.bool false)) := ((Kept.refl _ _).setCell (.inl (by simp)) _).setCell (.inl (by simp)) _
        refine ⟨rfl, _, ⟨?_, HT3.out.set.kept hk8 (by simp; exact fun e => HNE.out e.symm) (fun q hq => by simp; exact HT3.out.ne2 q hq), HNE.out, HT3.out.ne2⟩, HK3.out.trans' (hk8.more (by simp)), HV2.out⟩
        rw [HFI.out]
        exact BlkIs.set (BlkIs.set HT3.out.tf 7 _) 8 _
      · rw [if_neg hJs] at HFI
        have hJb2 : ((J : Int) == (sz : Int)) = false := by rw [beq_eq_false_iff_ne]; omega
        have HRW := Lib.hid (HRN.out _ _ W3 HT3.out)
        rename_i KA hA KB hB
        simp only [Exit.then]
        refine hB _ _ ?_
        have HA := Lib.hid hA
        clear hB hA
        refine wp_cond_false (by first | rfl | (simp [Act.eval]; omega) | (simp [Act.eval])) ?_
        go_wp2_with (go_at_call 96; (with_reducible refine HRW.out.mono ?_); rintro e W4 ⟨rfl, ht4, hk4⟩)
        refine HA.out _ _ ?_
        clear HA
        go_wp2
        go_ret
        refine ⟨rfl, _, ?_, HK3.out.trans' (hk4.more (by simp)), HV2.out⟩
        rw [HFI.out]
        exact ht4
end Go.Proofs.YtljlgbjbhokhlaaGreatDoor

namespace Go.Proofs.YtljlgbjbhokhlaaGreatDoor
open Go.ChangeShapes Go.WideShapes Go.ChangeAt Go.RowKit
set_option linter.unusedVariables false
set_option linter.unusedSimpArgs false

theorem maxPr_one (p : Pr) : M.maxPr [p] = p.2 := by unfold M.maxPr; simp
set_option maxHeartbeats 1000000 in
/-- Limited, and no more lost than before. -/
theorem tfLimit_max (s : TfS) (hs : s.ok) (l : List Pr) (hl : l.length ≤ 8) (h0 : 0 < l.length) (hsm : ∀ p ∈ l, p.2 < 18446744073709551616) (now : Int) (N : Int) (hN : max 0 (min now 4611686018427387904) = N) (x p : Nat) (hx : x < 18446744073709551616) (hp : p ≤ s.loss) (C P : Nat) (v : Value) (w : World) (h : TfAt s l C P v w) :
    Calls Tryz.prog 94 #[.pointer (some ⟨C, 0, none⟩), .int .i64 now, .int .u64 x, .int .u64 p, .bool true] w fun e w' => e = .returned (.int .u64 (M.mulT 2 (M.maxNT l x))) ∧
      ∃ v', TfAt s [(N, M.maxNT l x)] C P v' w' ∧ Kept (P :: own v) w w' ∧ (v'.ownBlock = v.ownBlock ∨ ∃ g, v'.ownBlock = some g ∧ w.heap.size ≤ g) := by
  have c3 : w.cell? ⟨C, 3, none⟩ = some (.int .u64 s.loss) := BlkIs.cell h.tf 3
  have c4 : w.cell? ⟨C, 4, none⟩ = some (.pointer (some ⟨P, 0, none⟩)) := BlkIs.cell h.tf 4
  have HH := Lib.hid h
  have HU : Hid (∀ W, SetAt l P v W → _) := Lib.hid (fun W hW => rsetMaximize_any l hl h0 hsm x hx now N hN P v W hW)
  have hM := M.maxNT_lt l x hx hsm
  obtain ⟨m, hm⟩ : ∃ m, M.maxNT l x = m := ⟨_, rfl⟩
  rw [hm] at HU hM ⊢
  have HMX : Hid (∀ v W, SetAt [(N, m)] P v W → Calls Tryz.prog 70 #[.pointer (some ⟨P, 0, none⟩)] W fun e w' => e = .returned (.int .u64 m) ∧ Below W.heap.size W w') := Lib.hid (fun v W hW => by
    have h1 := rsetMax_any [(N, m)] (by simp) (by simp) P v W hW
    rw [maxPr_one] at h1
    exact h1)
  have HMU : Hid (∀ W, Calls Tryz.prog 95 #[.int .u64 2, .int .u64 m] W fun e w' => e = .returned (.int .u64 (M.mulT 2 m)) ∧ W = w') := Lib.hid (fun W => fixMul_any 2 m (by decide) hM W)
  have HNC : Hid (C ∉ P :: own v) := Lib.hid (own_nin h.ne h.ne2)
  have hpd : decide ((s.loss : Int) < (p : Int)) = false := decide_eq_false (by omega)
  have hpd2 : ¬ (s.loss < p) := by omega
  generalize M.mulT 2 m = R at *
  generalize s.loss = sl at *
  clear h hs hsm hN hm
  go_enter Tryz.func94, Tryz.ntmps94
  go_wp2_with (go_at_call 128; (with_reducible refine (HU.out _ HH.out.set).mono ?_); rintro e W2 ⟨rfl, g, c, hs2, hk2, hat2⟩; have HT2 : Hid (BlkIs (tfCells s P) 126 C W2) := Lib.hid (BlkIs.kept HH.out.tf hk2 HNC.out); have c4' : W2.cell? ⟨C, 4, none⟩ = some (.pointer (some ⟨P, 0, none⟩)) := BlkIs.cell HT2.out 4)
  go_wp2_with (first
      | (go_at_call 70; (with_reducible refine (HMX.out _ _ hs2).mono ?_); rintro e W3 ⟨rfl, hb3⟩)
      | (go_at_call 95; (with_reducible refine (HMU.out _).mono ?_); rintro e W4 ⟨rfl, rfl⟩))
  go_ret
  have hk3 : Kept (P :: own v) w W3 := hk2.trans' (Kept.of_below _ hb3)
  refine ⟨rfl, _, ⟨HT2.out.below hb3, hs2.below hb3, HH.out.ne, ?_⟩, hk3, ?_⟩
  · intro q hq
    have hgq : g = q := by simpa [Value.ownBlock] using hq
    subst hgq
    rcases hat2 with h1 | h1
    · exact HH.out.ne2 g h1
    · have := HH.out.tf.lt; omega
  · rcases hat2 with h1 | h1
    · exact .inl (by rw [h1]; rfl)
    · exact .inr ⟨g, rfl, h1⟩
set_option maxHeartbeats 1000000 in
/-- Limited, and more lost than before. -/
theorem tfLimit_more (s : TfS) (hs : s.ok) (l : List Pr) (hl : l.length ≤ 8) (h0 : 0 < l.length) (hsm : ∀ p ∈ l, p.2 < 18446744073709551616) (now : Int) (N : Int) (hN : max 0 (min now 4611686018427387904) = N) (x p y : Nat) (hx : x ≤ 1125899906842624) (hy : x * 17 / 20 = y) (hp : s.loss < p) (C P : Nat) (v : Value) (w : World) (h : TfAt s l C P v w) :
    Calls Tryz.prog 94 #[.pointer (some ⟨C, 0, none⟩), .int .i64 now, .int .u64 x, .int .u64 p, .bool true] w fun e w' => e = .returned (.int .u64 (M.maxNT (l.map M.halfPr) y)) ∧
      ∃ v', TfAt s [(N, M.maxNT (l.map M.halfPr) y)] C P v' w' ∧ Kept (P :: own v) w w' ∧ (v'.ownBlock = v.ownBlock ∨ ∃ g, v'.ownBlock = some g ∧ w.heap.size ≤ g) := by
  have c3 : w.cell? ⟨C, 3, none⟩ = some (.int .u64 s.loss) := BlkIs.cell h.tf 3
  have c4 : w.cell? ⟨C, 4, none⟩ = some (.pointer (some ⟨P, 0, none⟩)) := BlkIs.cell h.tf 4
  have HH := Lib.hid h
  have hsm2 : ∀ p ∈ l.map M.halfPr, p.2 < 18446744073709551616 := by
    intro p hp
    obtain ⟨q, hq, rfl⟩ := List.mem_map.1 hp
    have := hsm q hq
    unfold M.halfPr
    split
    · exact this
    · simp only; omega
  have hy2 : y < 18446744073709551616 := by omega
  have HV : Hid (∀ W, SetAt l P v W → _) := Lib.hid (fun W hW => rsetHalve_any l hl h0 hsm P v W hW)
  have HU : Hid (∀ W, SetAt (l.map M.halfPr) P v W → _) := Lib.hid (fun W hW => rsetMaximize_any (l.map M.halfPr) (by rw [List.length_map]; exact hl) (by rw [List.length_map]; exact h0) hsm2 y hy2 now N hN P v W hW)
  have hM := M.maxNT_lt (l.map M.halfPr) y hy2 hsm2
  obtain ⟨m, hm⟩ : ∃ m, M.maxNT (l.map M.halfPr) y = m := ⟨_, rfl⟩
  rw [hm] at HU hM ⊢
  have HMX : Hid (∀ v W, SetAt [(N, m)] P v W → Calls Tryz.prog 70 #[.pointer (some ⟨P, 0, none⟩)] W fun e w' => e = .returned (.int .u64 m) ∧ Below W.heap.size W w') := Lib.hid (fun v W hW => by
    have h1 := rsetMax_any [(N, m)] (by simp) (by simp) P v W hW
    rw [maxPr_one] at h1
    exact h1)
  have HNC : Hid (C ∉ P :: own v) := Lib.hid (own_nin h.ne h.ne2)
  have hpd : decide ((s.loss : Int) < (p : Int)) = true := decide_eq_true (by omega)
  have hw17 : IntKind.u64.wrap ((x : Int) * 17) = (x : Int) * 17 := IntWalk.u64_in _ (by omega)
  have htd : ((x : Int) * 17).tdiv 20 = (y : Int) := by rw [Int.tdiv_eq_ediv_of_nonneg (by omega)]; omega
  have hwy : IntKind.u64.wrap (y : Int) = (y : Int) := IntWalk.u64_in _ (by omega)
  have i2 : (x : Int) * 17 / 20 = (y : Int) := by omega
  have i3 : (x : Int) ≤ 1125899906842624 := by omega
  generalize s.loss = sl at *
  clear h hs hsm hN hm hsm2 hy hy2
  have HO : Hid (v = v) := Lib.hid rfl
  go_enter Tryz.func94, Tryz.ntmps94
  go_upto_region 6 with (go_at_call 127; (with_reducible refine (HV.out _ HH.out.set).mono ?_); rintro e W1 ⟨rfl, hs1, hk1⟩)
  have HT1 : Hid (BlkIs (tfCells s P) 126 C W1) := Lib.hid (BlkIs.kept HH.out.tf hk1 HNC.out)
  have c41 : W1.cell? ⟨C, 4, none⟩ = some (.pointer (some ⟨P, 0, none⟩)) := BlkIs.cell HT1.out 4
  have HU1 := Lib.hid (HU.out W1 hs1)
  have HK1 := Lib.hid hk1
  clear hs1 hk1 HU HV
  go_upto_region 7 with (go_at_call 128; (with_reducible refine HU1.out.mono ?_); rintro e W2 ⟨rfl, g, c, hs2, hk2, hat2⟩)
  have HT2 : Hid (BlkIs (tfCells s P) 126 C W2) := Lib.hid (BlkIs.kept HT1.out hk2 HNC.out)
  have c42 : W2.cell? ⟨C, 4, none⟩ = some (.pointer (some ⟨P, 0, none⟩)) := BlkIs.cell HT2.out 4
  go_wp2_with (go_at_call 70; (with_reducible refine (HMX.out _ _ hs2).mono ?_); rintro e W3 ⟨rfl, hb3⟩)
  go_ret
  have hk3 : Kept (P :: own v) w W3 := (HK1.out.trans' hk2).trans' (Kept.of_below _ hb3)
  refine ⟨rfl, _, ⟨HT2.out.below hb3, hs2.below hb3, HH.out.ne, ?_⟩, hk3, ?_⟩
  · intro q hq
    have hgq : g = q := by simpa [Value.ownBlock] using hq
    subst hgq
    rcases hat2 with h1 | h1
    · exact HH.out.ne2 g h1
    · have := HH.out.tf.lt; have := HK1.out.size; omega
  · rcases hat2 with h1 | h1
    · exact .inl (by rw [h1]; rfl)
    · exact .inr ⟨g, rfl, Nat.le_trans HK1.out.size h1⟩
end Go.Proofs.YtljlgbjbhokhlaaGreatDoor

namespace Go.Proofs.YtljlgbjbhokhlaaGreatDoor
open Go.ChangeShapes Go.WideShapes Go.ChangeAt Go.RowKit
set_option linter.unusedVariables false
set_option linter.unusedSimpArgs false

/-- What limit does, of a rate as it stands. -/
def LimIs (s1 : TfS) (l : List Pr) (C P : Nat) (v : Value) (N : Int) (X p : Nat) (lim : Bool) (LIM : Nat) (l' : List Pr) : Prop :=
  ∀ W, TfAt s1 l C P v W → Calls Tryz.prog 94 #[.pointer (some ⟨C, 0, none⟩), .int .i64 N, .int .u64 X, .int .u64 p, .bool lim] W fun e w' => e = .returned (.int .u64 LIM) ∧ ∃ v', TfAt s1 l' C P v' w' ∧ Kept (P :: own v) W w' ∧ (v'.ownBlock = v.ownBlock ∨ ∃ g, v'.ownBlock = some g ∧ W.heap.size ≤ g)
theorem TfAt.put {s s' : TfS} {l : List Pr} {C P i : Nat} {v u : Value} {w : World} (h : TfAt s l C P v w) (e : (tfCells s P).setIfInBounds i u = tfCells s' P) : TfAt s' l C P v (w.setCell ⟨C, i, none⟩ u) := by
  have hk : Kept [C] w (w.setCell ⟨C, i, none⟩ u) := (Kept.refl _ _).setCell (.inl (by simp)) _
  refine ⟨?_, h.set.kept hk (by simp; exact fun e => h.ne e.symm) (fun g hg => by simp; exact h.ne2 g hg), h.ne, h.ne2⟩
  have h1 := BlkIs.set h.tf i u
  rw [e] at h1
  exact h1
set_option maxHeartbeats 8000000 in
set_option maxRecDepth 100000 in
theorem tfHear_first_none (s : TfS) (hs : s.ok) (now sample : Int) (x : Nat) (hx : x < 18446744073709551616) (N : Int) (hN : max 0 (min now 4611686018427387904) = N) (R : Nat) (hR : max 1 (min sample 4294967296) = (R : Int)) (hr : s.rtt = 0) (X : Nat) (hX : min x 1125899906842624 = X) (hdb : N - N < (R : Int)) (lim : Bool)
    (l l' : List Pr) (LIM : Nat) (hLIM : LIM < 18446744073709551616) (C P : Nat) (v : Value) (w : World) (h : TfAt s l C P v w) (hl : LimIs ({ s with rtt := R, rate := M.tfInit s.size R, doubled := N } : TfS) l C P v N X 0 lim LIM l') :
    Calls Tryz.prog 38 #[.pointer (some ⟨C, 0, none⟩), .int .i64 now, .int .i64 sample, .int .u64 x, .int .u64 0, .bool lim] w fun e w' => e = .returned (.tuple #[]) ∧
      ∃ v', TfAt (({ ({ s with rtt := R, rate := M.tfInit s.size R, doubled := N } : TfS) with loss := 0, rate := max (M.tfInit s.size R) s.size } : TfS).run (M.tfDue (M.tfWait ({ ({ s with rtt := R, rate := M.tfInit s.size R, doubled := N } : TfS) with loss := 0, rate := max (M.tfInit s.size R) s.size } : TfS)) N)) l' C P v' w' ∧ Kept (C :: P :: own v) w w' ∧ (v'.ownBlock = v.ownBlock ∨ ∃ g, v'.ownBlock = some g ∧ w.heap.size ≤ g) := by
  obtain ⟨fin, hfin⟩ : ∃ fin : TfS, ({ ({ s with rtt := R, rate := M.tfInit s.size R, doubled := N } : TfS) with loss := 0, rate := max (M.tfInit s.size R) s.size } : TfS) = fin := ⟨_, rfl⟩
  rw [hfin]
  have HFIN := Lib.hid hfin
  clear hfin
  have HM := Lib.hid (tfMade_any s hs l C P v w h)
  have HW1 := Lib.hid (fun W => tfWithin_any now 0 4611686018427387904 W)
  have HW2 := Lib.hid (fun W => tfWithin_any sample 1 4294967296 W)
  rw [hN] at HW1
  rw [hR] at HW2
  have hNb : 0 ≤ N ∧ N ≤ 4611686018427387904 := by omega
  have hRb : 1 ≤ R ∧ R ≤ 4294967296 := by omega
  obtain ⟨b1, b2⟩ := hs.b0
  have hsb1 := hs.b1
  have hsb2 := hs.b2
  have hsb4 := hs.b4
  have hXb : X < 18446744073709551616 := by omega
  obtain ⟨x1, x2, x3, _⟩ := mns x 1125899906842624 X hX
  have x1' : (if (1125899906842624 : Int) < (x : Int) then 1125899906842624 else (x : Int)) = (X : Int) := x1
  have x2' : (if 1125899906842624 < x then 1125899906842624 else (x : Int)) = (X : Int) := x2
  have x3' : min (x : Int) 1125899906842624 = (X : Int) := x3
  have m0 : min (0 : Int) 4294967296 = 0 := by decide
  have HNC : Hid (C ∉ P :: own v) := Lib.hid (own_nin h.ne h.ne2)
  have HCW : Hid (C < w.heap.size) := Lib.hid h.tf.lt
  have c2 : w.cell? ⟨C, 2, none⟩ = some (.int .i64 0) := by rw [← hr]; exact BlkIs.cell h.tf 2
  have f2 := BlkIs.free h.tf 2
  have hkA : Hid (Kept [C] w (w.setCell ⟨C, 2, none⟩ (.int .i64 R))) := Lib.hid ((Kept.refl _ _).setCell (.inl (by simp)) _)
  have HA : Hid (TfAt { s with rtt := R } l C P v (w.setCell ⟨C, 2, none⟩ (.int .i64 R))) := Lib.hid (h.put (i := 2) rfl)
  have hokA : ({ s with rtt := R } : TfS).ok := ⟨hs.b0, hs.b1, by simp only; omega, hs.b3, hs.b4⟩
  have HIN := Lib.hid (tfInitial_any { s with rtt := R } hokA (by simp only; omega) R rfl l C P v _ HA.out)
  have hIb := M.tfInit_bd s.size R b2
  obtain ⟨I, hI⟩ : ∃ I, M.tfInit s.size R = I := ⟨_, rfl⟩
  simp only at HIN
  rw [hI] at HIN hIb hl HFIN
  have HST := Lib.hid hs
  have HIe := Lib.hid hI
  clear h hs hr hX hI hN hR
  go_enter Tryz.func38, Tryz.ntmps38
  go_upto_region 5 with (first
    | (go_at_call 90; (with_reducible refine HM.out.mono ?_); rintro e w1 ⟨rfl, rfl⟩)
    | (go_at_call 92; (with_reducible refine (HW1.out _).mono ?_); rintro e w1 ⟨rfl, rfl⟩)
    | (go_at_call 92; (with_reducible refine (HW2.out _).mono ?_); rintro e w1 ⟨rfl, rfl⟩))
  generalize w.setCell ⟨C, 2, none⟩ (.int .i64 R) = W1 at *
  have d1 : ∀ n, (W1.drewN n).cell? ⟨C, 1, none⟩ = some (.int .u64 s.rate) := fun n => BlkIs.cell HA.out.tf 1
  have d5 : ∀ n, (W1.drewN n).cell? ⟨C, 5, none⟩ = some (.int .i64 s.doubled) := fun n => BlkIs.cell HA.out.tf 5
  have e1 : ∀ n, (W1.drewN n).frozen? ⟨C, 1, none⟩ = false := fun n => BlkIs.free HA.out.tf 1
  have e5 : ∀ n, (W1.drewN n).frozen? ⟨C, 5, none⟩ = false := fun n => BlkIs.free HA.out.tf 5
  clear c2 f2 HW1 HW2 HM
  go_upto_region 7 with (go_at_call 93; (with_reducible refine HIN.out.mono ?_); rintro e w1 ⟨rfl, n1, rfl⟩)
  obtain ⟨W2, hW2⟩ : ∃ W2, ((W1.drewN n1).setCell ⟨C, 1, none⟩ (.int .u64 I)).setCell ⟨C, 5, none⟩ (.int .i64 N) = W2 := ⟨_, rfl⟩
  have hkB : Hid (Kept [C] w W2) := Lib.hid (by rw [← hW2]; exact ((hkA.out.drewN n1).setCell (.inl (by simp)) _).setCell (.inl (by simp)) _)
  obtain ⟨s1, hs1⟩ : ∃ s1 : TfS, ({ s with rtt := R, rate := I, doubled := N } : TfS) = s1 := ⟨_, rfl⟩
  rw [hs1] at hl
  have HB : Hid (TfAt s1 l C P v W2) := Lib.hid (by
    rw [← hW2, ← hs1]
    have h1 : TfAt { s with rtt := R, rate := I } l C P v _ := (HA.out.drewN n1).put (i := 1) rfl
    exact h1.put (i := 5) rfl)
  rw [hW2]
  clear hW2 d1 d5 e1 e5 HIN HA
  have HS1E := Lib.hid hs1
  have hs1s : s1.size = s.size := by rw [← hs1]
  have hs1r : s1.rtt = (R : Int) := by rw [← hs1]
  have hs1d : s1.doubled = N := by rw [← hs1]
  have hs1t : s1.rate = I := by rw [← hs1]
  have HS1O : Hid (s1.ok) := Lib.hid (by rw [← hs1]; exact ⟨HST.out.b0, hIb, by simp only; omega, HST.out.b3, by simp only; omega⟩)
  have HLIM := Lib.hid (show Calls Tryz.prog 94 #[.pointer (some ⟨C, 0, none⟩), .int .i64 N, .int .u64 X, .int .u64 0, .bool lim] W2 _ from hl W2 HB.out)
  clear hl
  go_upto_region 8 with (go_at_call 94; (with_reducible refine HLIM.out.mono ?_); rintro e W3 ⟨rfl, v3, ht3, hk3, hv3⟩)
  have HV3 : Hid (v3.ownBlock = v.ownBlock ∨ ∃ g, v3.ownBlock = some g ∧ w.heap.size ≤ g) := Lib.hid (by
    rcases hv3 with h1 | ⟨g, h1, h2⟩
    · exact .inl h1
    · exact .inr ⟨g, h1, Nat.le_trans hkB.out.size h2⟩)
  have hkC : Hid (Kept (C :: P :: own v) w W3) := Lib.hid ((hkB.out.more (fun x hx => by simp at hx; subst hx; simp)).trans' (hk3.more (fun x hx => by simp; right; simpa using hx)))
  have HT3 := Lib.hid ht3
  have g3 : W3.cell? ⟨C, 3, none⟩ = some (.int .u64 s1.loss) := BlkIs.cell ht3.tf 3
  have k3 := BlkIs.free ht3.tf 3
  clear ht3 hk3 hv3 HLIM HB
  go_upto_region 11 with fail
  obtain ⟨W4, hW4⟩ : ∃ W4, W3.setCell ⟨C, 3, none⟩ (.int .u64 0) = W4 := ⟨_, rfl⟩
  have hk34 : Kept [C] W3 W4 := by rw [← hW4]; exact (Kept.refl _ _).setCell (.inl (by simp)) _
  obtain ⟨s2, hs2⟩ : ∃ s2 : TfS, ({ s1 with loss := 0 } : TfS) = s2 := ⟨_, rfl⟩
  have HD : Hid (TfAt s2 l' C P v3 W4) := Lib.hid (by rw [← hW4, ← hs2]; exact HT3.out.put (i := 3) rfl)
  have hkD : Hid (Kept (C :: P :: own v) w W4) := Lib.hid (hkC.out.trans' (hk34.more (fun x hx => by simp at hx; subst hx; simp)))
  rw [show W3.setCell ⟨C, 3, none⟩ (.int .u64 0) = W4 from hW4]
  clear hW4 hk34 g3 k3 HT3 hkC hkB
  have hs2s : s2.size = s.size := by rw [← hs2]; exact hs1s
  have hs2r : s2.rtt = (R : Int) := by rw [← hs2]; exact hs1r
  have hs2d : s2.doubled = N := by rw [← hs2]; exact hs1d
  have hs2t : s2.rate = I := by rw [← hs2]; exact hs1t
  have HS2O : Hid (s2.ok) := Lib.hid (by rw [← hs2]; exact ⟨HS1O.out.b0, HS1O.out.b1, HS1O.out.b2, by show 0 ≤ 4294967296; omega, HS1O.out.b4⟩)
  have HS2E := Lib.hid hs2
  clear hs2 hs1s hs1r hs1d hs1t hs1
  have q2 : W4.cell? ⟨C, 2, none⟩ = some (.int .i64 R) := by rw [← hs2r]; exact BlkIs.cell HD.out.tf 2
  have q5 : W4.cell? ⟨C, 5, none⟩ = some (.int .i64 N) := by rw [← hs2d]; exact BlkIs.cell HD.out.tf 5
  have hw1 : IntKind.i64.wrap (N - N) = N - N := IntWalk.i64_in _ (by omega)
  have hdec : decide ((R : Int) ≤ N - N) = false := decide_eq_false (by omega)
  have hz0 : N - N = 0 := Int.sub_self N
  have hdec0 : decide ((R : Int) ≤ 0) = false := decide_eq_false (by omega)
  clear hs2d hs2r
  go_quiet (fail)
  have HE : Hid (TfAt s2 l' C P v3 (W4.drewN nq)) := Lib.hid (HD.out.drewN nq)
  have hkE : Hid (Kept (C :: P :: own v) w (W4.drewN nq)) := Lib.hid (hkD.out.drewN nq)
  clear q2 q5 hw1 hdec hz0 hdec0 HD hkD
  generalize W4.drewN nq = W5 at *
  obtain ⟨s3, hs3⟩ : ∃ s3, s2 = s3 := ⟨_, rfl⟩
  obtain ⟨J0, hJ0⟩ : ∃ J0, I = J0 := ⟨_, rfl⟩
  have HOK3 : Hid (s3.ok) := Lib.hid (by rw [← hs3]; exact HS2O.out)
  have HFE : Hid (∀ J, max J0 s.size = J → ({ s3 with rate := J } : TfS) = fin) := Lib.hid (fun J hJ => by
    have hf := HFIN.out
    rw [← hf, ← hs3, ← HS2E.out, ← HS1E.out, ← hJ, ← hJ0])
  rw [hs3] at HE
  have hs3s : s3.size = s.size := by rw [← hs3]; exact hs2s
  have hs3t : s3.rate = J0 := by rw [← hs3, ← hJ0]; exact hs2t
  have hJ0b : J0 < 18446744073709551616 := by rw [← hs3t]; exact HOK3.out.b1
  clear hs3 hJ0 hs2s hs2t
  have q0 : W5.cell? ⟨C, 0, none⟩ = some (.int .u64 s.size) := by rw [← hs3s]; exact BlkIs.cell HE.out.tf 0
  have q1 : W5.cell? ⟨C, 1, none⟩ = some (.int .u64 J0) := by rw [← hs3t]; exact BlkIs.cell HE.out.tf 1
  have k1 := BlkIs.free HE.out.tf 1
  obtain ⟨J, hJ⟩ : ∃ J, max J0 s.size = J := ⟨_, rfl⟩
  obtain ⟨j1, j2, j3, _, j5, j6⟩ := mxs J0 s.size J hJ
  have hfin2 : ({ s3 with rate := J } : TfS) = fin := HFE.out J hJ
  have HF : Hid (TfAt fin l' C P v3 ((W5.setCell ⟨C, 1, none⟩ (.int .u64 J)).drew) ∧ Kept (C :: P :: own v) w ((W5.setCell ⟨C, 1, none⟩ (.int .u64 J)).drew)) := Lib.hid (by
    have hk : Kept [C] W5 ((W5.setCell ⟨C, 1, none⟩ (.int .u64 J)).drew) := ((Kept.refl _ _).setCell (.inl (by simp)) _).drew
    refine ⟨?_, hkE.out.trans' (hk.more (fun x hx => by simp at hx; subst hx; simp))⟩
    rw [← hfin2]
    have h1 : TfAt { s3 with rate := J } l' C P v3 _ := HE.out.put (i := 1) rfl
    exact h1.drewN 1)
  have HRUN := Lib.hid (tfRunOn_any fin (by
    rw [← hfin2]
    have ho := HOK3.out
    exact ⟨ho.b0, by show J < 18446744073709551616; omega, ho.b2, ho.b3, ho.b4⟩) (by rw [← hfin2]; show s3.size ≤ J; rw [hs3s]; exact j6) N (by omega) l' C P v3 _ HF.out.1)
  clear hJ hfin2 j5 j6 hs3s hs3t
  generalize s.size = sz at *
  go_wp2
  go_region_with (fail)
  all_goals
    go_wp2_with (go_at_call 96; (with_reducible refine HRUN.out.mono ?_); rintro e W7 ⟨rfl, ht7, hk7⟩)
    go_end0
    exact ⟨rfl, v3, ht7, HF.out.2.trans' (hk7.more (fun x hx => by simp at hx; subst hx; simp)), HV3.out⟩
set_option maxHeartbeats 8000000 in
set_option maxRecDepth 100000 in
theorem tfHear_first_p (s : TfS) (hs : s.ok) (now sample : Int) (x : Nat) (hx : x < 18446744073709551616) (N : Int) (hN : max 0 (min now 4611686018427387904) = N) (R : Nat) (hR : max 1 (min sample 4294967296) = (R : Int)) (hr : s.rtt = 0) (X : Nat) (hX : min x 1125899906842624 = X) (p pp : Nat) (hp : p < 18446744073709551616) (hpp : min p 4294967296 = pp) (hp0 : 0 < pp) (lim : Bool)
    (l l' : List Pr) (LIM : Nat) (hLIM : LIM < 18446744073709551616) (C P : Nat) (v : Value) (w : World) (h : TfAt s l C P v w) (hl : LimIs ({ s with rtt := R, rate := M.tfInit s.size R, doubled := N } : TfS) l C P v N X pp lim LIM l') :
    Calls Tryz.prog 38 #[.pointer (some ⟨C, 0, none⟩), .int .i64 now, .int .i64 sample, .int .u64 x, .int .u64 p, .bool lim] w fun e w' => e = .returned (.tuple #[]) ∧
      ∃ v', TfAt (({ ({ s with rtt := R, rate := M.tfInit s.size R, doubled := N } : TfS) with loss := pp, rate := max (min (M.eqnRate s.size R pp) LIM) s.size } : TfS).run (M.tfDue (M.tfWait ({ ({ s with rtt := R, rate := M.tfInit s.size R, doubled := N } : TfS) with loss := pp, rate := max (min (M.eqnRate s.size R pp) LIM) s.size } : TfS)) N)) l' C P v' w' ∧ Kept (C :: P :: own v) w w' ∧ (v'.ownBlock = v.ownBlock ∨ ∃ g, v'.ownBlock = some g ∧ w.heap.size ≤ g) := by
  obtain ⟨fin, hfin⟩ : ∃ fin : TfS, ({ ({ s with rtt := R, rate := M.tfInit s.size R, doubled := N } : TfS) with loss := pp, rate := max (min (M.eqnRate s.size R pp) LIM) s.size } : TfS) = fin := ⟨_, rfl⟩
  rw [hfin]
  have HFIN := Lib.hid hfin
  clear hfin
  have HM := Lib.hid (tfMade_any s hs l C P v w h)
  have HW1 := Lib.hid (fun W => tfWithin_any now 0 4611686018427387904 W)
  have HW2 := Lib.hid (fun W => tfWithin_any sample 1 4294967296 W)
  rw [hN] at HW1
  rw [hR] at HW2
  have hNb : 0 ≤ N ∧ N ≤ 4611686018427387904 := by omega
  have hRb : 1 ≤ R ∧ R ≤ 4294967296 := by omega
  obtain ⟨b1, b2⟩ := hs.b0
  have hsb1 := hs.b1
  have hsb2 := hs.b2
  have hsb4 := hs.b4
  have hXb : X < 18446744073709551616 := by omega
  obtain ⟨x1, x2, x3, _⟩ := mns x 1125899906842624 X hX
  have x1' : (if (1125899906842624 : Int) < (x : Int) then 1125899906842624 else (x : Int)) = (X : Int) := x1
  have x2' : (if 1125899906842624 < x then 1125899906842624 else (x : Int)) = (X : Int) := x2
  have x3' : min (x : Int) 1125899906842624 = (X : Int) := x3
  obtain ⟨y1, y2, y3, _⟩ := mns p 4294967296 pp hpp
  have y1' : (if (4294967296 : Int) < (p : Int) then 4294967296 else (p : Int)) = (pp : Int) := y1
  have y2' : (if 4294967296 < p then 4294967296 else (p : Int)) = (pp : Int) := y2
  have y3' : min (p : Int) 4294967296 = (pp : Int) := y3
  have hppb : pp < 18446744073709551616 := by omega
  have HNC : Hid (C ∉ P :: own v) := Lib.hid (own_nin h.ne h.ne2)
  have HCW : Hid (C < w.heap.size) := Lib.hid h.tf.lt
  have c2 : w.cell? ⟨C, 2, none⟩ = some (.int .i64 0) := by rw [← hr]; exact BlkIs.cell h.tf 2
  have f2 := BlkIs.free h.tf 2
  have hkA : Hid (Kept [C] w (w.setCell ⟨C, 2, none⟩ (.int .i64 R))) := Lib.hid ((Kept.refl _ _).setCell (.inl (by simp)) _)
  have HA : Hid (TfAt { s with rtt := R } l C P v (w.setCell ⟨C, 2, none⟩ (.int .i64 R))) := Lib.hid (h.put (i := 2) rfl)
  have hokA : ({ s with rtt := R } : TfS).ok := ⟨hs.b0, hs.b1, by simp only; omega, hs.b3, hs.b4⟩
  have HIN := Lib.hid (tfInitial_any { s with rtt := R } hokA (by simp only; omega) R rfl l C P v _ HA.out)
  have hIb := M.tfInit_bd s.size R b2
  obtain ⟨I, hI⟩ : ∃ I, M.tfInit s.size R = I := ⟨_, rfl⟩
  simp only at HIN
  rw [hI] at HIN hIb hl HFIN
  have HST := Lib.hid hs
  have HIe := Lib.hid hI
  clear h hs hr hX hI hN hR
  go_enter Tryz.func38, Tryz.ntmps38
  go_upto_region 5 with (first
    | (go_at_call 90; (with_reducible refine HM.out.mono ?_); rintro e w1 ⟨rfl, rfl⟩)
    | (go_at_call 92; (with_reducible refine (HW1.out _).mono ?_); rintro e w1 ⟨rfl, rfl⟩)
    | (go_at_call 92; (with_reducible refine (HW2.out _).mono ?_); rintro e w1 ⟨rfl, rfl⟩))
  generalize w.setCell ⟨C, 2, none⟩ (.int .i64 R) = W1 at *
  have d1 : ∀ n, (W1.drewN n).cell? ⟨C, 1, none⟩ = some (.int .u64 s.rate) := fun n => BlkIs.cell HA.out.tf 1
  have d5 : ∀ n, (W1.drewN n).cell? ⟨C, 5, none⟩ = some (.int .i64 s.doubled) := fun n => BlkIs.cell HA.out.tf 5
  have e1 : ∀ n, (W1.drewN n).frozen? ⟨C, 1, none⟩ = false := fun n => BlkIs.free HA.out.tf 1
  have e5 : ∀ n, (W1.drewN n).frozen? ⟨C, 5, none⟩ = false := fun n => BlkIs.free HA.out.tf 5
  clear c2 f2 HW1 HW2 HM
  go_upto_region 7 with (go_at_call 93; (with_reducible refine HIN.out.mono ?_); rintro e w1 ⟨rfl, n1, rfl⟩)
  obtain ⟨W2, hW2⟩ : ∃ W2, ((W1.drewN n1).setCell ⟨C, 1, none⟩ (.int .u64 I)).setCell ⟨C, 5, none⟩ (.int .i64 N) = W2 := ⟨_, rfl⟩
  have hkB : Hid (Kept [C] w W2) := Lib.hid (by rw [← hW2]; exact ((hkA.out.drewN n1).setCell (.inl (by simp)) _).setCell (.inl (by simp)) _)
  obtain ⟨s1, hs1⟩ : ∃ s1 : TfS, ({ s with rtt := R, rate := I, doubled := N } : TfS) = s1 := ⟨_, rfl⟩
  rw [hs1] at hl
  have HB : Hid (TfAt s1 l C P v W2) := Lib.hid (by
    rw [← hW2, ← hs1]
    have h1 : TfAt { s with rtt := R, rate := I } l C P v _ := (HA.out.drewN n1).put (i := 1) rfl
    exact h1.put (i := 5) rfl)
  rw [hW2]
  clear hW2 d1 d5 e1 e5 HIN HA
  have HS1E := Lib.hid hs1
  have hs1s : s1.size = s.size := by rw [← hs1]
  have hs1r : s1.rtt = (R : Int) := by rw [← hs1]
  have hs1d : s1.doubled = N := by rw [← hs1]
  have hs1t : s1.rate = I := by rw [← hs1]
  have HS1O : Hid (s1.ok) := Lib.hid (by rw [← hs1]; exact ⟨HST.out.b0, hIb, by simp only; omega, HST.out.b3, by simp only; omega⟩)
  have HLIM := Lib.hid (show Calls Tryz.prog 94 #[.pointer (some ⟨C, 0, none⟩), .int .i64 N, .int .u64 X, .int .u64 pp, .bool lim] W2 _ from hl W2 HB.out)
  clear hl
  go_upto_region 8 with (go_at_call 94; (with_reducible refine HLIM.out.mono ?_); rintro e W3 ⟨rfl, v3, ht3, hk3, hv3⟩)
  have HV3 : Hid (v3.ownBlock = v.ownBlock ∨ ∃ g, v3.ownBlock = some g ∧ w.heap.size ≤ g) := Lib.hid (by
    rcases hv3 with h1 | ⟨g, h1, h2⟩
    · exact .inl h1
    · exact .inr ⟨g, h1, Nat.le_trans hkB.out.size h2⟩)
  have hkC : Hid (Kept (C :: P :: own v) w W3) := Lib.hid ((hkB.out.more (fun x hx => by simp at hx; subst hx; simp)).trans' (hk3.more (fun x hx => by simp; right; simpa using hx)))
  have HT3 := Lib.hid ht3
  have g3 : W3.cell? ⟨C, 3, none⟩ = some (.int .u64 s1.loss) := BlkIs.cell ht3.tf 3
  have k3 := BlkIs.free ht3.tf 3
  clear ht3 hk3 hv3 HLIM HB
  have hpd : decide ((0 : Int) < (pp : Int)) = true := decide_eq_true (by omega)
  go_upto_region 10 with fail
  obtain ⟨W4, hW4⟩ : ∃ W4, W3.setCell ⟨C, 3, none⟩ (.int .u64 pp) = W4 := ⟨_, rfl⟩
  have hk34 : Kept [C] W3 W4 := by rw [← hW4]; exact (Kept.refl _ _).setCell (.inl (by simp)) _
  obtain ⟨s2, hs2⟩ : ∃ s2 : TfS, ({ s1 with loss := pp } : TfS) = s2 := ⟨_, rfl⟩
  have HD : Hid (TfAt s2 l' C P v3 W4) := Lib.hid (by rw [← hW4, ← hs2]; exact HT3.out.put (i := 3) rfl)
  have hkD : Hid (Kept (C :: P :: own v) w W4) := Lib.hid (hkC.out.trans' (hk34.more (fun x hx => by simp at hx; subst hx; simp)))
  rw [show W3.setCell ⟨C, 3, none⟩ (.int .u64 pp) = W4 from hW4]
  clear hW4 hk34 g3 k3 HT3 hkC hkB
  have hs2s : s2.size = s.size := by rw [← hs2]; exact hs1s
  have hs2r : s2.rtt = (R : Int) := by rw [← hs2]; exact hs1r
  have hs2d : s2.doubled = N := by rw [← hs2]; exact hs1d
  have hs2t : s2.rate = I := by rw [← hs2]; exact hs1t
  have HS2O : Hid (s2.ok) := Lib.hid (by rw [← hs2]; exact ⟨HS1O.out.b0, HS1O.out.b1, HS1O.out.b2, by show pp ≤ 4294967296; omega, HS1O.out.b4⟩)
  have HS2E := Lib.hid hs2
  clear hs2 hs1s hs1r hs1d hs1t hs1
  have hRT : ((R : Nat) : Int) ≤ 4294967296 := by omega
  have hwR : IntKind.u64.wrap ((R : Nat) : Int) = ((R : Nat) : Int) := IntWalk.u64_in _ (by omega)
  have q0 : ∀ n, (W4.drewN n).cell? ⟨C, 0, none⟩ = some (.int .u64 s.size) := fun n => by rw [← hs2s]; exact BlkIs.cell HD.out.tf 0
  have q2 : ∀ n, (W4.drewN n).cell? ⟨C, 2, none⟩ = some (.int .i64 R) := fun n => by rw [← hs2r]; exact BlkIs.cell HD.out.tf 2
  have q1 : ∀ n, (W4.drewN n).cell? ⟨C, 1, none⟩ = some (.int .u64 s2.rate) := fun n => BlkIs.cell HD.out.tf 1
  have f1 : ∀ n, (W4.drewN n).frozen? ⟨C, 1, none⟩ = false := fun n => BlkIs.free HD.out.tf 1
  have p0 : W4.cell? ⟨C, 0, none⟩ = some (.int .u64 s.size) := q0 0
  have p2 : W4.cell? ⟨C, 2, none⟩ = some (.int .i64 R) := q2 0
  obtain ⟨G, hG⟩ : ∃ G, M.eqnRate s.size R pp = G := ⟨_, rfl⟩
  have HEQ : Hid (∀ W, Calls Tryz.prog 69 #[.int .u64 s.size, .int .u64 R, .int .u64 pp] W fun e w' => e = .returned (.int .u64 G) ∧ ∃ k, w' = W.drewN k) := Lib.hid (fun W => by have h1 := eqnRate_any s.size R pp (by omega) (by omega) hppb W; rw [hG] at h1; exact h1)
  obtain ⟨J0, hJ0⟩ : ∃ J0, min G LIM = J0 := ⟨_, rfl⟩
  rw [hG, hJ0] at HFIN
  obtain ⟨n1, n2, n3, _, n5, n6⟩ := mns G LIM J0 hJ0
  have hJ0b : J0 < 18446744073709551616 := by omega
  have HSR : Hid (s2.size = s.size) := Lib.hid hs2s
  clear hs2s hs2r hs2d hs2t hG hJ0 n5 n6
  go_region_with (go_at_call 69; (with_reducible refine (HEQ.out _).mono ?_); rintro e w1 ⟨rfl, k1, rfl⟩)
  all_goals
    obtain ⟨W5, hW5⟩ : ∃ W5, (W4.drewN (1 + k1)).setCell ⟨C, 1, none⟩ (.int .u64 J0) = W5 := ⟨_, rfl⟩
    obtain ⟨s3, hs3⟩ : ∃ s3 : TfS, ({ s2 with rate := J0 } : TfS) = s3 := ⟨_, rfl⟩
    have HE : Hid (TfAt s3 l' C P v3 W5) := Lib.hid (by
      rw [← hW5, ← hs3]
      exact (HD.out.drewN (1 + k1)).put (i := 1) rfl)
    have hkE : Hid (Kept (C :: P :: own v) w W5) := Lib.hid (by rw [← hW5]; exact (hkD.out.drewN (1 + k1)).setCell (.inl (by simp)) _)
    rw [hW5]
    have HOK3 : Hid (s3.ok) := Lib.hid (by rw [← hs3]; exact ⟨HS2O.out.b0, hJ0b, HS2O.out.b2, HS2O.out.b3, HS2O.out.b4⟩)
    have HFE : Hid (∀ J, max J0 s.size = J → ({ s3 with rate := J } : TfS) = fin) := Lib.hid (fun J hJ => by
      have hf := HFIN.out
      rw [← hf, ← hs3, ← HS2E.out, ← HS1E.out, ← hJ])
    have hs3s : s3.size = s.size := by rw [← hs3]; exact HSR.out
    have hs3t : s3.rate = J0 := by rw [← hs3]
    clear hW5 hs3 q0 q1 q2 f1 p0 p2 hwR HEQ n1 n2 n3 HD hkD
    have q0 : W5.cell? ⟨C, 0, none⟩ = some (.int .u64 s.size) := by rw [← hs3s]; exact BlkIs.cell HE.out.tf 0
    have q1 : W5.cell? ⟨C, 1, none⟩ = some (.int .u64 J0) := by rw [← hs3t]; exact BlkIs.cell HE.out.tf 1
    have k1 := BlkIs.free HE.out.tf 1
    obtain ⟨J, hJ⟩ : ∃ J, max J0 s.size = J := ⟨_, rfl⟩
    obtain ⟨j1, j2, j3, _, j5, j6⟩ := mxs J0 s.size J hJ
    have hfin2 : ({ s3 with rate := J } : TfS) = fin := HFE.out J hJ
    have HF : Hid (TfAt fin l' C P v3 ((W5.setCell ⟨C, 1, none⟩ (.int .u64 J)).drew) ∧ Kept (C :: P :: own v) w ((W5.setCell ⟨C, 1, none⟩ (.int .u64 J)).drew)) := Lib.hid (by
      have hk : Kept [C] W5 ((W5.setCell ⟨C, 1, none⟩ (.int .u64 J)).drew) := ((Kept.refl _ _).setCell (.inl (by simp)) _).drew
      refine ⟨?_, hkE.out.trans' (hk.more (fun x hx => by simp at hx; subst hx; simp))⟩
      rw [← hfin2]
      have h1 : TfAt { s3 with rate := J } l' C P v3 _ := HE.out.put (i := 1) rfl
      exact h1.drewN 1)
    have HRUN := Lib.hid (tfRunOn_any fin (by
      rw [← hfin2]
      have ho := HOK3.out
      exact ⟨ho.b0, by show J < 18446744073709551616; omega, ho.b2, ho.b3, ho.b4⟩) (by rw [← hfin2]; show s3.size ≤ J; rw [hs3s]; exact j6) N (by omega) l' C P v3 _ HF.out.1)
    clear hJ hfin2 j5 j6 hs3s hs3t
    generalize s.size = sz at *
    go_wp2
    go_region_with (fail)
    all_goals
      go_wp2_with (go_at_call 96; (with_reducible refine HRUN.out.mono ?_); rintro e W7 ⟨rfl, ht7, hk7⟩)
      go_end0
      exact ⟨rfl, v3, ht7, HF.out.2.trans' (hk7.more (fun x hx => by simp at hx; subst hx; simp)), HV3.out⟩
end Go.Proofs.YtljlgbjbhokhlaaGreatDoor

namespace Go.Proofs.YtljlgbjbhokhlaaGreatDoor
open Go.ChangeShapes Go.WideShapes Go.ChangeAt Go.RowKit
set_option linter.unusedVariables false
set_option linter.unusedSimpArgs false

set_option maxHeartbeats 8000000 in
set_option maxRecDepth 100000 in
theorem tfHear_later_dbl (s : TfS) (hs : s.ok) (now sample : Int) (x : Nat) (hx : x < 18446744073709551616) (N : Int) (hN : max 0 (min now 4611686018427387904) = N) (R : Nat) (hR : max 1 (min sample 4294967296) = (R : Int)) (hr : 1 ≤ s.rtt) (Q : Nat) (hQ : (9 * s.rtt + R) / 10 = (Q : Int)) (X : Nat) (hX : min x 1125899906842624 = X) (hdb : (Q : Int) ≤ N - s.doubled) (lim : Bool)
    (l l' : List Pr) (LIM : Nat) (hLIM : LIM < 18446744073709551616) (C P : Nat) (v : Value) (w : World) (h : TfAt s l C P v w) (hl : LimIs ({ s with rtt := Q } : TfS) l C P v N X 0 lim LIM l') :
    Calls Tryz.prog 38 #[.pointer (some ⟨C, 0, none⟩), .int .i64 now, .int .i64 sample, .int .u64 x, .int .u64 0, .bool lim] w fun e w' => e = .returned (.tuple #[]) ∧
      ∃ v', TfAt (({ ({ s with rtt := Q } : TfS) with loss := 0, rate := max (max (min (M.mulT 2 (s.rate)) LIM) (M.tfInit s.size Q)) s.size, doubled := N } : TfS).run (M.tfDue (M.tfWait ({ ({ s with rtt := Q } : TfS) with loss := 0, rate := max (max (min (M.mulT 2 (s.rate)) LIM) (M.tfInit s.size Q)) s.size, doubled := N } : TfS)) N)) l' C P v' w' ∧ Kept (C :: P :: own v) w w' ∧ (v'.ownBlock = v.ownBlock ∨ ∃ g, v'.ownBlock = some g ∧ w.heap.size ≤ g) := by
  obtain ⟨fin, hfin⟩ : ∃ fin : TfS, ({ ({ s with rtt := Q } : TfS) with loss := 0, rate := max (max (min (M.mulT 2 (s.rate)) LIM) (M.tfInit s.size Q)) s.size, doubled := N } : TfS) = fin := ⟨_, rfl⟩
  rw [hfin]
  have HFIN := Lib.hid hfin
  clear hfin
  have HM := Lib.hid (tfMade_any s hs l C P v w h)
  have HW1 := Lib.hid (fun W => tfWithin_any now 0 4611686018427387904 W)
  have HW2 := Lib.hid (fun W => tfWithin_any sample 1 4294967296 W)
  rw [hN] at HW1
  rw [hR] at HW2
  have hNb : 0 ≤ N ∧ N ≤ 4611686018427387904 := by omega
  have hRb : 1 ≤ R ∧ R ≤ 4294967296 := by omega
  obtain ⟨b1, b2⟩ := hs.b0
  have hsb1 := hs.b1
  have hsb2 := hs.b2
  have hsb4 := hs.b4
  have hXb : X < 18446744073709551616 := by omega
  obtain ⟨x1, x2, x3, _⟩ := mns x 1125899906842624 X hX
  have x1' : (if (1125899906842624 : Int) < (x : Int) then 1125899906842624 else (x : Int)) = (X : Int) := x1
  have x2' : (if 1125899906842624 < x then 1125899906842624 else (x : Int)) = (X : Int) := x2
  have x3' : min (x : Int) 1125899906842624 = (X : Int) := x3
  have m0 : min (0 : Int) 4294967296 = 0 := by decide
  have HNC : Hid (C ∉ P :: own v) := Lib.hid (own_nin h.ne h.ne2)
  have HCW : Hid (C < w.heap.size) := Lib.hid h.tf.lt
  have c2 : w.cell? ⟨C, 2, none⟩ = some (.int .i64 s.rtt) := BlkIs.cell h.tf 2
  have f2 := BlkIs.free h.tf 2
  have hkB : Hid (Kept [C] w (w.setCell ⟨C, 2, none⟩ (.int .i64 Q))) := Lib.hid ((Kept.refl _ _).setCell (.inl (by simp)) _)
  obtain ⟨s1, hs1⟩ : ∃ s1 : TfS, ({ s with rtt := Q } : TfS) = s1 := ⟨_, rfl⟩
  rw [hs1] at hl
  have HB : Hid (TfAt s1 l C P v (w.setCell ⟨C, 2, none⟩ (.int .i64 Q))) := Lib.hid (by rw [← hs1]; exact h.put (i := 2) rfl)
  have hz : (s.rtt == 0) = false := by rw [beq_eq_false_iff_ne]; omega
  have h9 : IntKind.i64.wrap (9 * s.rtt) = 9 * s.rtt := IntWalk.i64_in _ (by omega)
  have h91 : IntKind.i64.wrap (9 * s.rtt + (R : Int)) = 9 * s.rtt + (R : Int) := IntWalk.i64_in _ (by omega)
  have h92 : (9 * s.rtt + (R : Int)).tdiv 10 = (Q : Int) := by rw [Int.tdiv_eq_ediv_of_nonneg (by omega)]; exact hQ
  have h93 : IntKind.i64.wrap (Q : Int) = (Q : Int) := IntWalk.i64_in _ (by omega)
  have hQb : 1 ≤ Q ∧ Q ≤ 4294967296 := by omega
  have HS1E := Lib.hid hs1
  have hs1s : s1.size = s.size := by rw [← hs1]
  have hs1r : s1.rtt = (Q : Int) := by rw [← hs1]
  have hs1d : s1.doubled = s.doubled := by rw [← hs1]
  have hs1t : s1.rate = s.rate := by rw [← hs1]
  have HS1O : Hid (s1.ok) := Lib.hid (by rw [← hs1]; exact ⟨hs.b0, hs.b1, by simp only; omega, hs.b3, hs.b4⟩)
  have HST := Lib.hid hs
  clear h hs hX hQ hs1 hN hR
  go_enter Tryz.func38, Tryz.ntmps38
  go_upto_region 7 with (first
    | (go_at_call 90; (with_reducible refine HM.out.mono ?_); rintro e w1 ⟨rfl, rfl⟩)
    | (go_at_call 92; (with_reducible refine (HW1.out _).mono ?_); rintro e w1 ⟨rfl, rfl⟩)
    | (go_at_call 92; (with_reducible refine (HW2.out _).mono ?_); rintro e w1 ⟨rfl, rfl⟩))
  clear c2 f2 HW1 HW2 HM h9 h91 h92 h93 hz hr
  generalize w.setCell ⟨C, 2, none⟩ (.int .i64 Q) = W2 at *
  have HLIM := Lib.hid (show Calls Tryz.prog 94 #[.pointer (some ⟨C, 0, none⟩), .int .i64 N, .int .u64 X, .int .u64 0, .bool lim] W2 _ from hl W2 HB.out)
  clear hl
  go_upto_region 8 with (go_at_call 94; (with_reducible refine HLIM.out.mono ?_); rintro e W3 ⟨rfl, v3, ht3, hk3, hv3⟩)
  have HV3 : Hid (v3.ownBlock = v.ownBlock ∨ ∃ g, v3.ownBlock = some g ∧ w.heap.size ≤ g) := Lib.hid (by
    rcases hv3 with h1 | ⟨g, h1, h2⟩
    · exact .inl h1
    · exact .inr ⟨g, h1, Nat.le_trans hkB.out.size h2⟩)
  have hkC : Hid (Kept (C :: P :: own v) w W3) := Lib.hid ((hkB.out.more (fun x hx => by simp at hx; subst hx; simp)).trans' (hk3.more (fun x hx => by simp; right; simpa using hx)))
  have HT3 := Lib.hid ht3
  have g3 : W3.cell? ⟨C, 3, none⟩ = some (.int .u64 s1.loss) := BlkIs.cell ht3.tf 3
  have k3 := BlkIs.free ht3.tf 3
  clear ht3 hk3 hv3 HLIM HB
  go_upto_region 11 with fail
  obtain ⟨W4, hW4⟩ : ∃ W4, W3.setCell ⟨C, 3, none⟩ (.int .u64 0) = W4 := ⟨_, rfl⟩
  have hk34 : Kept [C] W3 W4 := by rw [← hW4]; exact (Kept.refl _ _).setCell (.inl (by simp)) _
  obtain ⟨s2, hs2⟩ : ∃ s2 : TfS, ({ s1 with loss := 0 } : TfS) = s2 := ⟨_, rfl⟩
  have HD : Hid (TfAt s2 l' C P v3 W4) := Lib.hid (by rw [← hW4, ← hs2]; exact HT3.out.put (i := 3) rfl)
  have hkD : Hid (Kept (C :: P :: own v) w W4) := Lib.hid (hkC.out.trans' (hk34.more (fun x hx => by simp at hx; subst hx; simp)))
  rw [show W3.setCell ⟨C, 3, none⟩ (.int .u64 0) = W4 from hW4]
  clear hW4 hk34 g3 k3 HT3 hkC hkB
  have hs2s : s2.size = s.size := by rw [← hs2]; exact hs1s
  have hs2r : s2.rtt = (Q : Int) := by rw [← hs2]; exact hs1r
  have hs2d : s2.doubled = s.doubled := by rw [← hs2]; exact hs1d
  have hs2t : s2.rate = s.rate := by rw [← hs2]; exact hs1t
  have HS2O : Hid (s2.ok) := Lib.hid (by rw [← hs2]; exact ⟨HS1O.out.b0, HS1O.out.b1, HS1O.out.b2, by show 0 ≤ 4294967296; omega, HS1O.out.b4⟩)
  have HS2E := Lib.hid hs2
  clear hs2 hs1s hs1r hs1d hs1t 
  have q2 : W4.cell? ⟨C, 2, none⟩ = some (.int .i64 Q) := by rw [← hs2r]; exact BlkIs.cell HD.out.tf 2
  have q5 : W4.cell? ⟨C, 5, none⟩ = some (.int .i64 s.doubled) := by rw [← hs2d]; exact BlkIs.cell HD.out.tf 5
  have hw1 : IntKind.i64.wrap (N - s.doubled) = N - s.doubled := IntWalk.i64_in _ (by omega)
  have hdec : decide ((Q : Int) ≤ N - s.doubled) = true := decide_eq_true (by omega)
  go_quiet (fail)
  have HE0 : Hid (TfAt s2 l' C P v3 (W4.drewN nq)) := Lib.hid (HD.out.drewN nq)
  have hkE0 : Hid (Kept (C :: P :: own v) w (W4.drewN nq)) := Lib.hid (hkD.out.drewN nq)
  clear q2 q5 hw1 hdec HD hkD
  generalize W4.drewN nq = W4' at *
  -- the doubling
  have hIb := M.tfInit_bd s.size Q b2
  have HIN := Lib.hid (tfInitial_any s2 HS2O.out (by rw [hs2r]; omega) Q hs2r l' C P v3 W4' HE0.out)
  rw [hs2s] at HIN
  obtain ⟨I2, hI2⟩ : ∃ I2, M.tfInit s.size Q = I2 := ⟨_, rfl⟩
  obtain ⟨D2, hD2⟩ : ∃ D2, M.mulT 2 s.rate = D2 := ⟨_, rfl⟩
  obtain ⟨E2, hE2⟩ : ∃ E2, min D2 LIM = E2 := ⟨_, rfl⟩
  obtain ⟨J0, hJ0⟩ : ∃ J0, max E2 I2 = J0 := ⟨_, rfl⟩
  rw [hI2] at HIN hIb HFIN
  rw [hD2, hE2, hJ0] at HFIN
  have HMU : Hid (∀ W, Calls Tryz.prog 95 #[.int .u64 2, .int .u64 s.rate] W fun e w' => e = .returned (.int .u64 D2) ∧ W = w') := Lib.hid (fun W => by have h1 := fixMul_any 2 s.rate (by decide) hsb1 W; rw [hD2] at h1; exact h1)
  obtain ⟨n1, n2, n3, _, n5, n6⟩ := mns D2 LIM E2 hE2
  obtain ⟨o1, o2, o3, o4, o5, o6⟩ := mxs E2 I2 J0 hJ0
  have q1 : W4'.cell? ⟨C, 1, none⟩ = some (.int .u64 s.rate) := by rw [← hs2t]; exact BlkIs.cell HE0.out.tf 1
  have d1 : ∀ n, (W4'.drewN n).cell? ⟨C, 1, none⟩ = some (.int .u64 s.rate) := fun n => q1
  have d5 : ∀ n, (W4'.drewN n).cell? ⟨C, 5, none⟩ = some (.int .i64 s2.doubled) := fun n => BlkIs.cell HE0.out.tf 5
  have e1 : ∀ n, (W4'.drewN n).frozen? ⟨C, 1, none⟩ = false := fun n => BlkIs.free HE0.out.tf 1
  have e5 : ∀ n, (W4'.drewN n).frozen? ⟨C, 5, none⟩ = false := fun n => BlkIs.free HE0.out.tf 5
  have hJ0b : J0 < 18446744073709551616 := by omega
  have HSR : Hid (s2.size = s.size) := Lib.hid hs2s
  clear hI2 hD2 hE2 hJ0 o4 n5 n6 o5 o6 hs2s hs2r hs2t hs2d
  go_upto_region 13 with (first
    | (go_at_call 95; (with_reducible refine (HMU.out _).mono ?_); rintro e w1 ⟨rfl, rfl⟩)
    | (go_at_call 93; (with_reducible refine HIN.out.mono ?_); rintro e w1 ⟨rfl, n9, rfl⟩))
  obtain ⟨W5, hW5⟩ : ∃ W5, ((W4'.drewN n9).setCell ⟨C, 1, none⟩ (.int .u64 J0)).setCell ⟨C, 5, none⟩ (.int .i64 N) = W5 := ⟨_, rfl⟩
  obtain ⟨s3, hs3⟩ : ∃ s3 : TfS, ({ s2 with rate := J0, doubled := N } : TfS) = s3 := ⟨_, rfl⟩
  have HE : Hid (TfAt s3 l' C P v3 W5) := Lib.hid (by
    rw [← hW5, ← hs3]
    have h1 : TfAt { s2 with rate := J0 } l' C P v3 _ := (HE0.out.drewN n9).put (i := 1) rfl
    exact h1.put (i := 5) rfl)
  have hkE : Hid (Kept (C :: P :: own v) w W5) := Lib.hid (by rw [← hW5]; exact ((hkE0.out.drewN n9).setCell (.inl (by simp)) _).setCell (.inl (by simp)) _)
  rw [hW5]
  have HOK3 : Hid (s3.ok) := Lib.hid (by rw [← hs3]; exact ⟨HS2O.out.b0, hJ0b, HS2O.out.b2, HS2O.out.b3, by simp only; omega⟩)
  have HFE : Hid (∀ J, max J0 s.size = J → ({ s3 with rate := J } : TfS) = fin) := Lib.hid (fun J hJ => by
    have hf := HFIN.out
    rw [← hf, ← hs3, ← HS2E.out, ← HS1E.out, ← hJ])
  have hs3s : s3.size = s.size := by rw [← hs3]; exact HSR.out
  have hs3t : s3.rate = J0 := by rw [← hs3]
  clear hW5 hs3 d1 d5 e1 e5 q1 n1 n2 n3 o1 o2 o3 HE0 hkE0 HIN HMU
  have q0 : W5.cell? ⟨C, 0, none⟩ = some (.int .u64 s.size) := by rw [← hs3s]; exact BlkIs.cell HE.out.tf 0
  have q1 : W5.cell? ⟨C, 1, none⟩ = some (.int .u64 J0) := by rw [← hs3t]; exact BlkIs.cell HE.out.tf 1
  have k1 := BlkIs.free HE.out.tf 1
  obtain ⟨J, hJ⟩ : ∃ J, max J0 s.size = J := ⟨_, rfl⟩
  obtain ⟨j1, j2, j3, _, j5, j6⟩ := mxs J0 s.size J hJ
  have hfin2 : ({ s3 with rate := J } : TfS) = fin := HFE.out J hJ
  have HF : Hid (TfAt fin l' C P v3 ((W5.setCell ⟨C, 1, none⟩ (.int .u64 J)).drew) ∧ Kept (C :: P :: own v) w ((W5.setCell ⟨C, 1, none⟩ (.int .u64 J)).drew)) := Lib.hid (by
    have hk : Kept [C] W5 ((W5.setCell ⟨C, 1, none⟩ (.int .u64 J)).drew) := ((Kept.refl _ _).setCell (.inl (by simp)) _).drew
    refine ⟨?_, hkE.out.trans' (hk.more (fun x hx => by simp at hx; subst hx; simp))⟩
    rw [← hfin2]
    have h1 : TfAt { s3 with rate := J } l' C P v3 _ := HE.out.put (i := 1) rfl
    exact h1.drewN 1)
  have HRUN := Lib.hid (tfRunOn_any fin (by
    rw [← hfin2]
    have ho := HOK3.out
    exact ⟨ho.b0, by show J < 18446744073709551616; omega, ho.b2, ho.b3, ho.b4⟩) (by rw [← hfin2]; show s3.size ≤ J; rw [hs3s]; exact j6) N (by omega) l' C P v3 _ HF.out.1)
  clear hJ hfin2 j5 j6 hs3s hs3t
  generalize s.size = sz at *
  go_wp2
  go_region_with (fail)
  all_goals
    go_wp2_with (go_at_call 96; (with_reducible refine HRUN.out.mono ?_); rintro e W7 ⟨rfl, ht7, hk7⟩)
    go_end0
    exact ⟨rfl, v3, ht7, HF.out.2.trans' (hk7.more (fun x hx => by simp at hx; subst hx; simp)), HV3.out⟩
set_option maxHeartbeats 8000000 in
set_option maxRecDepth 100000 in
theorem tfHear_later_none (s : TfS) (hs : s.ok) (now sample : Int) (x : Nat) (hx : x < 18446744073709551616) (N : Int) (hN : max 0 (min now 4611686018427387904) = N) (R : Nat) (hR : max 1 (min sample 4294967296) = (R : Int)) (hr : 1 ≤ s.rtt) (Q : Nat) (hQ : (9 * s.rtt + R) / 10 = (Q : Int)) (X : Nat) (hX : min x 1125899906842624 = X) (hdb : N - s.doubled < (Q : Int)) (lim : Bool)
    (l l' : List Pr) (LIM : Nat) (hLIM : LIM < 18446744073709551616) (C P : Nat) (v : Value) (w : World) (h : TfAt s l C P v w) (hl : LimIs ({ s with rtt := Q } : TfS) l C P v N X 0 lim LIM l') :
    Calls Tryz.prog 38 #[.pointer (some ⟨C, 0, none⟩), .int .i64 now, .int .i64 sample, .int .u64 x, .int .u64 0, .bool lim] w fun e w' => e = .returned (.tuple #[]) ∧
      ∃ v', TfAt (({ ({ s with rtt := Q } : TfS) with loss := 0, rate := max (s.rate) s.size } : TfS).run (M.tfDue (M.tfWait ({ ({ s with rtt := Q } : TfS) with loss := 0, rate := max (s.rate) s.size } : TfS)) N)) l' C P v' w' ∧ Kept (C :: P :: own v) w w' ∧ (v'.ownBlock = v.ownBlock ∨ ∃ g, v'.ownBlock = some g ∧ w.heap.size ≤ g) := by
  obtain ⟨fin, hfin⟩ : ∃ fin : TfS, ({ ({ s with rtt := Q } : TfS) with loss := 0, rate := max (s.rate) s.size } : TfS) = fin := ⟨_, rfl⟩
  rw [hfin]
  have HFIN := Lib.hid hfin
  clear hfin
  have HM := Lib.hid (tfMade_any s hs l C P v w h)
  have HW1 := Lib.hid (fun W => tfWithin_any now 0 4611686018427387904 W)
  have HW2 := Lib.hid (fun W => tfWithin_any sample 1 4294967296 W)
  rw [hN] at HW1
  rw [hR] at HW2
  have hNb : 0 ≤ N ∧ N ≤ 4611686018427387904 := by omega
  have hRb : 1 ≤ R ∧ R ≤ 4294967296 := by omega
  obtain ⟨b1, b2⟩ := hs.b0
  have hsb1 := hs.b1
  have hsb2 := hs.b2
  have hsb4 := hs.b4
  have hXb : X < 18446744073709551616 := by omega
  obtain ⟨x1, x2, x3, _⟩ := mns x 1125899906842624 X hX
  have x1' : (if (1125899906842624 : Int) < (x : Int) then 1125899906842624 else (x : Int)) = (X : Int) := x1
  have x2' : (if 1125899906842624 < x then 1125899906842624 else (x : Int)) = (X : Int) := x2
  have x3' : min (x : Int) 1125899906842624 = (X : Int) := x3
  have m0 : min (0 : Int) 4294967296 = 0 := by decide
  have HNC : Hid (C ∉ P :: own v) := Lib.hid (own_nin h.ne h.ne2)
  have HCW : Hid (C < w.heap.size) := Lib.hid h.tf.lt
  have c2 : w.cell? ⟨C, 2, none⟩ = some (.int .i64 s.rtt) := BlkIs.cell h.tf 2
  have f2 := BlkIs.free h.tf 2
  have hkB : Hid (Kept [C] w (w.setCell ⟨C, 2, none⟩ (.int .i64 Q))) := Lib.hid ((Kept.refl _ _).setCell (.inl (by simp)) _)
  obtain ⟨s1, hs1⟩ : ∃ s1 : TfS, ({ s with rtt := Q } : TfS) = s1 := ⟨_, rfl⟩
  rw [hs1] at hl
  have HB : Hid (TfAt s1 l C P v (w.setCell ⟨C, 2, none⟩ (.int .i64 Q))) := Lib.hid (by rw [← hs1]; exact h.put (i := 2) rfl)
  have hz : (s.rtt == 0) = false := by rw [beq_eq_false_iff_ne]; omega
  have h9 : IntKind.i64.wrap (9 * s.rtt) = 9 * s.rtt := IntWalk.i64_in _ (by omega)
  have h91 : IntKind.i64.wrap (9 * s.rtt + (R : Int)) = 9 * s.rtt + (R : Int) := IntWalk.i64_in _ (by omega)
  have h92 : (9 * s.rtt + (R : Int)).tdiv 10 = (Q : Int) := by rw [Int.tdiv_eq_ediv_of_nonneg (by omega)]; exact hQ
  have h93 : IntKind.i64.wrap (Q : Int) = (Q : Int) := IntWalk.i64_in _ (by omega)
  have hQb : 1 ≤ Q ∧ Q ≤ 4294967296 := by omega
  have HS1E := Lib.hid hs1
  have hs1s : s1.size = s.size := by rw [← hs1]
  have hs1r : s1.rtt = (Q : Int) := by rw [← hs1]
  have hs1d : s1.doubled = s.doubled := by rw [← hs1]
  have hs1t : s1.rate = s.rate := by rw [← hs1]
  have HS1O : Hid (s1.ok) := Lib.hid (by rw [← hs1]; exact ⟨hs.b0, hs.b1, by simp only; omega, hs.b3, hs.b4⟩)
  have HST := Lib.hid hs
  clear h hs hX hQ hs1 hN hR
  go_enter Tryz.func38, Tryz.ntmps38
  go_upto_region 7 with (first
    | (go_at_call 90; (with_reducible refine HM.out.mono ?_); rintro e w1 ⟨rfl, rfl⟩)
    | (go_at_call 92; (with_reducible refine (HW1.out _).mono ?_); rintro e w1 ⟨rfl, rfl⟩)
    | (go_at_call 92; (with_reducible refine (HW2.out _).mono ?_); rintro e w1 ⟨rfl, rfl⟩))
  clear c2 f2 HW1 HW2 HM h9 h91 h92 h93 hz hr
  generalize w.setCell ⟨C, 2, none⟩ (.int .i64 Q) = W2 at *
  have HLIM := Lib.hid (show Calls Tryz.prog 94 #[.pointer (some ⟨C, 0, none⟩), .int .i64 N, .int .u64 X, .int .u64 0, .bool lim] W2 _ from hl W2 HB.out)
  clear hl
  go_upto_region 8 with (go_at_call 94; (with_reducible refine HLIM.out.mono ?_); rintro e W3 ⟨rfl, v3, ht3, hk3, hv3⟩)
  have HV3 : Hid (v3.ownBlock = v.ownBlock ∨ ∃ g, v3.ownBlock = some g ∧ w.heap.size ≤ g) := Lib.hid (by
    rcases hv3 with h1 | ⟨g, h1, h2⟩
    · exact .inl h1
    · exact .inr ⟨g, h1, Nat.le_trans hkB.out.size h2⟩)
  have hkC : Hid (Kept (C :: P :: own v) w W3) := Lib.hid ((hkB.out.more (fun x hx => by simp at hx; subst hx; simp)).trans' (hk3.more (fun x hx => by simp; right; simpa using hx)))
  have HT3 := Lib.hid ht3
  have g3 : W3.cell? ⟨C, 3, none⟩ = some (.int .u64 s1.loss) := BlkIs.cell ht3.tf 3
  have k3 := BlkIs.free ht3.tf 3
  clear ht3 hk3 hv3 HLIM HB
  go_upto_region 11 with fail
  obtain ⟨W4, hW4⟩ : ∃ W4, W3.setCell ⟨C, 3, none⟩ (.int .u64 0) = W4 := ⟨_, rfl⟩
  have hk34 : Kept [C] W3 W4 := by rw [← hW4]; exact (Kept.refl _ _).setCell (.inl (by simp)) _
  obtain ⟨s2, hs2⟩ : ∃ s2 : TfS, ({ s1 with loss := 0 } : TfS) = s2 := ⟨_, rfl⟩
  have HD : Hid (TfAt s2 l' C P v3 W4) := Lib.hid (by rw [← hW4, ← hs2]; exact HT3.out.put (i := 3) rfl)
  have hkD : Hid (Kept (C :: P :: own v) w W4) := Lib.hid (hkC.out.trans' (hk34.more (fun x hx => by simp at hx; subst hx; simp)))
  rw [show W3.setCell ⟨C, 3, none⟩ (.int .u64 0) = W4 from hW4]
  clear hW4 hk34 g3 k3 HT3 hkC hkB
  have hs2s : s2.size = s.size := by rw [← hs2]; exact hs1s
  have hs2r : s2.rtt = (Q : Int) := by rw [← hs2]; exact hs1r
  have hs2d : s2.doubled = s.doubled := by rw [← hs2]; exact hs1d
  have hs2t : s2.rate = s.rate := by rw [← hs2]; exact hs1t
  have HS2O : Hid (s2.ok) := Lib.hid (by rw [← hs2]; exact ⟨HS1O.out.b0, HS1O.out.b1, HS1O.out.b2, by show 0 ≤ 4294967296; omega, HS1O.out.b4⟩)
  have HS2E := Lib.hid hs2
  clear hs2 hs1s hs1r hs1d hs1t 
  have q2 : W4.cell? ⟨C, 2, none⟩ = some (.int .i64 Q) := by rw [← hs2r]; exact BlkIs.cell HD.out.tf 2
  have q5 : W4.cell? ⟨C, 5, none⟩ = some (.int .i64 s.doubled) := by rw [← hs2d]; exact BlkIs.cell HD.out.tf 5
  have hw1 : IntKind.i64.wrap (N - s.doubled) = N - s.doubled := IntWalk.i64_in _ (by omega)
  have hdec : decide ((Q : Int) ≤ N - s.doubled) = false := decide_eq_false (by omega)
  clear hs2d hs2r
  go_quiet (fail)
  have HE : Hid (TfAt s2 l' C P v3 (W4.drewN nq)) := Lib.hid (HD.out.drewN nq)
  have hkE : Hid (Kept (C :: P :: own v) w (W4.drewN nq)) := Lib.hid (hkD.out.drewN nq)
  clear q2 q5 hw1 hdec  HD hkD
  generalize W4.drewN nq = W5 at *
  obtain ⟨s3, hs3⟩ : ∃ s3, s2 = s3 := ⟨_, rfl⟩
  obtain ⟨J0, hJ0⟩ : ∃ J0, s.rate = J0 := ⟨_, rfl⟩
  have HOK3 : Hid (s3.ok) := Lib.hid (by rw [← hs3]; exact HS2O.out)
  have HFE : Hid (∀ J, max J0 s.size = J → ({ s3 with rate := J } : TfS) = fin) := Lib.hid (fun J hJ => by
    have hf := HFIN.out
    rw [← hf, ← hs3, ← HS2E.out, ← HS1E.out, ← hJ, ← hJ0])
  rw [hs3] at HE
  have hs3s : s3.size = s.size := by rw [← hs3]; exact hs2s
  have hs3t : s3.rate = J0 := by rw [← hs3, ← hJ0]; exact hs2t
  have hJ0b : J0 < 18446744073709551616 := by rw [← hs3t]; exact HOK3.out.b1
  clear hs3 hJ0 hs2s hs2t
  have q0 : W5.cell? ⟨C, 0, none⟩ = some (.int .u64 s.size) := by rw [← hs3s]; exact BlkIs.cell HE.out.tf 0
  have q1 : W5.cell? ⟨C, 1, none⟩ = some (.int .u64 J0) := by rw [← hs3t]; exact BlkIs.cell HE.out.tf 1
  have k1 := BlkIs.free HE.out.tf 1
  obtain ⟨J, hJ⟩ : ∃ J, max J0 s.size = J := ⟨_, rfl⟩
  obtain ⟨j1, j2, j3, _, j5, j6⟩ := mxs J0 s.size J hJ
  have hfin2 : ({ s3 with rate := J } : TfS) = fin := HFE.out J hJ
  have HF : Hid (TfAt fin l' C P v3 ((W5.setCell ⟨C, 1, none⟩ (.int .u64 J)).drew) ∧ Kept (C :: P :: own v) w ((W5.setCell ⟨C, 1, none⟩ (.int .u64 J)).drew)) := Lib.hid (by
    have hk : Kept [C] W5 ((W5.setCell ⟨C, 1, none⟩ (.int .u64 J)).drew) := ((Kept.refl _ _).setCell (.inl (by simp)) _).drew
    refine ⟨?_, hkE.out.trans' (hk.more (fun x hx => by simp at hx; subst hx; simp))⟩
    rw [← hfin2]
    have h1 : TfAt { s3 with rate := J } l' C P v3 _ := HE.out.put (i := 1) rfl
    exact h1.drewN 1)
  have HRUN := Lib.hid (tfRunOn_any fin (by
    rw [← hfin2]
    have ho := HOK3.out
    exact ⟨ho.b0, by show J < 18446744073709551616; omega, ho.b2, ho.b3, ho.b4⟩) (by rw [← hfin2]; show s3.size ≤ J; rw [hs3s]; exact j6) N (by omega) l' C P v3 _ HF.out.1)
  clear hJ hfin2 j5 j6 hs3s hs3t
  generalize s.size = sz at *
  go_wp2
  go_region_with (fail)
  all_goals
    go_wp2_with (go_at_call 96; (with_reducible refine HRUN.out.mono ?_); rintro e W7 ⟨rfl, ht7, hk7⟩)
    go_end0
    exact ⟨rfl, v3, ht7, HF.out.2.trans' (hk7.more (fun x hx => by simp at hx; subst hx; simp)), HV3.out⟩
set_option maxHeartbeats 8000000 in
set_option maxRecDepth 100000 in
theorem tfHear_later_p (s : TfS) (hs : s.ok) (now sample : Int) (x : Nat) (hx : x < 18446744073709551616) (N : Int) (hN : max 0 (min now 4611686018427387904) = N) (R : Nat) (hR : max 1 (min sample 4294967296) = (R : Int)) (hr : 1 ≤ s.rtt) (Q : Nat) (hQ : (9 * s.rtt + R) / 10 = (Q : Int)) (X : Nat) (hX : min x 1125899906842624 = X) (p pp : Nat) (hp : p < 18446744073709551616) (hpp : min p 4294967296 = pp) (hp0 : 0 < pp) (lim : Bool)
    (l l' : List Pr) (LIM : Nat) (hLIM : LIM < 18446744073709551616) (C P : Nat) (v : Value) (w : World) (h : TfAt s l C P v w) (hl : LimIs ({ s with rtt := Q } : TfS) l C P v N X pp lim LIM l') :
    Calls Tryz.prog 38 #[.pointer (some ⟨C, 0, none⟩), .int .i64 now, .int .i64 sample, .int .u64 x, .int .u64 p, .bool lim] w fun e w' => e = .returned (.tuple #[]) ∧
      ∃ v', TfAt (({ ({ s with rtt := Q } : TfS) with loss := pp, rate := max (min (M.eqnRate s.size Q pp) LIM) s.size } : TfS).run (M.tfDue (M.tfWait ({ ({ s with rtt := Q } : TfS) with loss := pp, rate := max (min (M.eqnRate s.size Q pp) LIM) s.size } : TfS)) N)) l' C P v' w' ∧ Kept (C :: P :: own v) w w' ∧ (v'.ownBlock = v.ownBlock ∨ ∃ g, v'.ownBlock = some g ∧ w.heap.size ≤ g) := by
  obtain ⟨fin, hfin⟩ : ∃ fin : TfS, ({ ({ s with rtt := Q } : TfS) with loss := pp, rate := max (min (M.eqnRate s.size Q pp) LIM) s.size } : TfS) = fin := ⟨_, rfl⟩
  rw [hfin]
  have HFIN := Lib.hid hfin
  clear hfin
  have HM := Lib.hid (tfMade_any s hs l C P v w h)
  have HW1 := Lib.hid (fun W => tfWithin_any now 0 4611686018427387904 W)
  have HW2 := Lib.hid (fun W => tfWithin_any sample 1 4294967296 W)
  rw [hN] at HW1
  rw [hR] at HW2
  have hNb : 0 ≤ N ∧ N ≤ 4611686018427387904 := by omega
  have hRb : 1 ≤ R ∧ R ≤ 4294967296 := by omega
  obtain ⟨b1, b2⟩ := hs.b0
  have hsb1 := hs.b1
  have hsb2 := hs.b2
  have hsb4 := hs.b4
  have hXb : X < 18446744073709551616 := by omega
  obtain ⟨x1, x2, x3, _⟩ := mns x 1125899906842624 X hX
  have x1' : (if (1125899906842624 : Int) < (x : Int) then 1125899906842624 else (x : Int)) = (X : Int) := x1
  have x2' : (if 1125899906842624 < x then 1125899906842624 else (x : Int)) = (X : Int) := x2
  have x3' : min (x : Int) 1125899906842624 = (X : Int) := x3
  obtain ⟨y1, y2, y3, _⟩ := mns p 4294967296 pp hpp
  have y1' : (if (4294967296 : Int) < (p : Int) then 4294967296 else (p : Int)) = (pp : Int) := y1
  have y2' : (if 4294967296 < p then 4294967296 else (p : Int)) = (pp : Int) := y2
  have y3' : min (p : Int) 4294967296 = (pp : Int) := y3
  have hppb : pp < 18446744073709551616 := by omega
  have HNC : Hid (C ∉ P :: own v) := Lib.hid (own_nin h.ne h.ne2)
  have HCW : Hid (C < w.heap.size) := Lib.hid h.tf.lt
  have c2 : w.cell? ⟨C, 2, none⟩ = some (.int .i64 s.rtt) := BlkIs.cell h.tf 2
  have f2 := BlkIs.free h.tf 2
  have hkB : Hid (Kept [C] w (w.setCell ⟨C, 2, none⟩ (.int .i64 Q))) := Lib.hid ((Kept.refl _ _).setCell (.inl (by simp)) _)
  obtain ⟨s1, hs1⟩ : ∃ s1 : TfS, ({ s with rtt := Q } : TfS) = s1 := ⟨_, rfl⟩
  rw [hs1] at hl
  have HB : Hid (TfAt s1 l C P v (w.setCell ⟨C, 2, none⟩ (.int .i64 Q))) := Lib.hid (by rw [← hs1]; exact h.put (i := 2) rfl)
  have hz : (s.rtt == 0) = false := by rw [beq_eq_false_iff_ne]; omega
  have h9 : IntKind.i64.wrap (9 * s.rtt) = 9 * s.rtt := IntWalk.i64_in _ (by omega)
  have h91 : IntKind.i64.wrap (9 * s.rtt + (R : Int)) = 9 * s.rtt + (R : Int) := IntWalk.i64_in _ (by omega)
  have h92 : (9 * s.rtt + (R : Int)).tdiv 10 = (Q : Int) := by rw [Int.tdiv_eq_ediv_of_nonneg (by omega)]; exact hQ
  have h93 : IntKind.i64.wrap (Q : Int) = (Q : Int) := IntWalk.i64_in _ (by omega)
  have hQb : 1 ≤ Q ∧ Q ≤ 4294967296 := by omega
  have HS1E := Lib.hid hs1
  have hs1s : s1.size = s.size := by rw [← hs1]
  have hs1r : s1.rtt = (Q : Int) := by rw [← hs1]
  have hs1d : s1.doubled = s.doubled := by rw [← hs1]
  have hs1t : s1.rate = s.rate := by rw [← hs1]
  have HS1O : Hid (s1.ok) := Lib.hid (by rw [← hs1]; exact ⟨hs.b0, hs.b1, by simp only; omega, hs.b3, hs.b4⟩)
  have HST := Lib.hid hs
  clear h hs hX hQ hs1 hN hR
  go_enter Tryz.func38, Tryz.ntmps38
  go_upto_region 7 with (first
    | (go_at_call 90; (with_reducible refine HM.out.mono ?_); rintro e w1 ⟨rfl, rfl⟩)
    | (go_at_call 92; (with_reducible refine (HW1.out _).mono ?_); rintro e w1 ⟨rfl, rfl⟩)
    | (go_at_call 92; (with_reducible refine (HW2.out _).mono ?_); rintro e w1 ⟨rfl, rfl⟩))
  clear c2 f2 HW1 HW2 HM h9 h91 h92 h93 hz hr
  generalize w.setCell ⟨C, 2, none⟩ (.int .i64 Q) = W2 at *
  have HLIM := Lib.hid (show Calls Tryz.prog 94 #[.pointer (some ⟨C, 0, none⟩), .int .i64 N, .int .u64 X, .int .u64 pp, .bool lim] W2 _ from hl W2 HB.out)
  clear hl
  go_upto_region 8 with (go_at_call 94; (with_reducible refine HLIM.out.mono ?_); rintro e W3 ⟨rfl, v3, ht3, hk3, hv3⟩)
  have HV3 : Hid (v3.ownBlock = v.ownBlock ∨ ∃ g, v3.ownBlock = some g ∧ w.heap.size ≤ g) := Lib.hid (by
    rcases hv3 with h1 | ⟨g, h1, h2⟩
    · exact .inl h1
    · exact .inr ⟨g, h1, Nat.le_trans hkB.out.size h2⟩)
  have hkC : Hid (Kept (C :: P :: own v) w W3) := Lib.hid ((hkB.out.more (fun x hx => by simp at hx; subst hx; simp)).trans' (hk3.more (fun x hx => by simp; right; simpa using hx)))
  have HT3 := Lib.hid ht3
  have g3 : W3.cell? ⟨C, 3, none⟩ = some (.int .u64 s1.loss) := BlkIs.cell ht3.tf 3
  have k3 := BlkIs.free ht3.tf 3
  clear ht3 hk3 hv3 HLIM HB
  have hpd : decide ((0 : Int) < (pp : Int)) = true := decide_eq_true (by omega)
  go_upto_region 10 with fail
  obtain ⟨W4, hW4⟩ : ∃ W4, W3.setCell ⟨C, 3, none⟩ (.int .u64 pp) = W4 := ⟨_, rfl⟩
  have hk34 : Kept [C] W3 W4 := by rw [← hW4]; exact (Kept.refl _ _).setCell (.inl (by simp)) _
  obtain ⟨s2, hs2⟩ : ∃ s2 : TfS, ({ s1 with loss := pp } : TfS) = s2 := ⟨_, rfl⟩
  have HD : Hid (TfAt s2 l' C P v3 W4) := Lib.hid (by rw [← hW4, ← hs2]; exact HT3.out.put (i := 3) rfl)
  have hkD : Hid (Kept (C :: P :: own v) w W4) := Lib.hid (hkC.out.trans' (hk34.more (fun x hx => by simp at hx; subst hx; simp)))
  rw [show W3.setCell ⟨C, 3, none⟩ (.int .u64 pp) = W4 from hW4]
  clear hW4 hk34 g3 k3 HT3 hkC hkB
  have hs2s : s2.size = s.size := by rw [← hs2]; exact hs1s
  have hs2r : s2.rtt = (Q : Int) := by rw [← hs2]; exact hs1r
  have hs2d : s2.doubled = s.doubled := by rw [← hs2]; exact hs1d
  have hs2t : s2.rate = s.rate := by rw [← hs2]; exact hs1t
  have HS2O : Hid (s2.ok) := Lib.hid (by rw [← hs2]; exact ⟨HS1O.out.b0, HS1O.out.b1, HS1O.out.b2, by show pp ≤ 4294967296; omega, HS1O.out.b4⟩)
  have HS2E := Lib.hid hs2
  clear hs2 hs1s hs1r hs1d hs1t 
  have hRT : ((Q : Nat) : Int) ≤ 4294967296 := by omega
  have hwR : IntKind.u64.wrap ((Q : Nat) : Int) = ((Q : Nat) : Int) := IntWalk.u64_in _ (by omega)
  have q0 : ∀ n, (W4.drewN n).cell? ⟨C, 0, none⟩ = some (.int .u64 s.size) := fun n => by rw [← hs2s]; exact BlkIs.cell HD.out.tf 0
  have q2 : ∀ n, (W4.drewN n).cell? ⟨C, 2, none⟩ = some (.int .i64 Q) := fun n => by rw [← hs2r]; exact BlkIs.cell HD.out.tf 2
  have q1 : ∀ n, (W4.drewN n).cell? ⟨C, 1, none⟩ = some (.int .u64 s2.rate) := fun n => BlkIs.cell HD.out.tf 1
  have f1 : ∀ n, (W4.drewN n).frozen? ⟨C, 1, none⟩ = false := fun n => BlkIs.free HD.out.tf 1
  have p0 : W4.cell? ⟨C, 0, none⟩ = some (.int .u64 s.size) := q0 0
  have p2 : W4.cell? ⟨C, 2, none⟩ = some (.int .i64 Q) := q2 0
  obtain ⟨G, hG⟩ : ∃ G, M.eqnRate s.size Q pp = G := ⟨_, rfl⟩
  have HEQ : Hid (∀ W, Calls Tryz.prog 69 #[.int .u64 s.size, .int .u64 Q, .int .u64 pp] W fun e w' => e = .returned (.int .u64 G) ∧ ∃ k, w' = W.drewN k) := Lib.hid (fun W => by have h1 := eqnRate_any s.size Q pp (by omega) (by omega) hppb W; rw [hG] at h1; exact h1)
  obtain ⟨J0, hJ0⟩ : ∃ J0, min G LIM = J0 := ⟨_, rfl⟩
  rw [hG, hJ0] at HFIN
  obtain ⟨n1, n2, n3, _, n5, n6⟩ := mns G LIM J0 hJ0
  have hJ0b : J0 < 18446744073709551616 := by omega
  have HSR : Hid (s2.size = s.size) := Lib.hid hs2s
  clear hs2s hs2r hs2d hs2t hG hJ0 n5 n6
  go_region_with (go_at_call 69; (with_reducible refine (HEQ.out _).mono ?_); rintro e w1 ⟨rfl, k1, rfl⟩)
  all_goals
    obtain ⟨W5, hW5⟩ : ∃ W5, (W4.drewN (1 + k1)).setCell ⟨C, 1, none⟩ (.int .u64 J0) = W5 := ⟨_, rfl⟩
    obtain ⟨s3, hs3⟩ : ∃ s3 : TfS, ({ s2 with rate := J0 } : TfS) = s3 := ⟨_, rfl⟩
    have HE : Hid (TfAt s3 l' C P v3 W5) := Lib.hid (by
      rw [← hW5, ← hs3]
      exact (HD.out.drewN (1 + k1)).put (i := 1) rfl)
    have hkE : Hid (Kept (C :: P :: own v) w W5) := Lib.hid (by rw [← hW5]; exact (hkD.out.drewN (1 + k1)).setCell (.inl (by simp)) _)
    rw [hW5]
    have HOK3 : Hid (s3.ok) := Lib.hid (by rw [← hs3]; exact ⟨HS2O.out.b0, hJ0b, HS2O.out.b2, HS2O.out.b3, HS2O.out.b4⟩)
    have HFE : Hid (∀ J, max J0 s.size = J → ({ s3 with rate := J } : TfS) = fin) := Lib.hid (fun J hJ => by
      have hf := HFIN.out
      rw [← hf, ← hs3, ← HS2E.out, ← HS1E.out, ← hJ])
    have hs3s : s3.size = s.size := by rw [← hs3]; exact HSR.out
    have hs3t : s3.rate = J0 := by rw [← hs3]
    clear hW5 hs3 q0 q1 q2 f1 p0 p2 hwR HEQ n1 n2 n3 HD hkD
    have q0 : W5.cell? ⟨C, 0, none⟩ = some (.int .u64 s.size) := by rw [← hs3s]; exact BlkIs.cell HE.out.tf 0
    have q1 : W5.cell? ⟨C, 1, none⟩ = some (.int .u64 J0) := by rw [← hs3t]; exact BlkIs.cell HE.out.tf 1
    have k1 := BlkIs.free HE.out.tf 1
    obtain ⟨J, hJ⟩ : ∃ J, max J0 s.size = J := ⟨_, rfl⟩
    obtain ⟨j1, j2, j3, _, j5, j6⟩ := mxs J0 s.size J hJ
    have hfin2 : ({ s3 with rate := J } : TfS) = fin := HFE.out J hJ
    have HF : Hid (TfAt fin l' C P v3 ((W5.setCell ⟨C, 1, none⟩ (.int .u64 J)).drew) ∧ Kept (C :: P :: own v) w ((W5.setCell ⟨C, 1, none⟩ (.int .u64 J)).drew)) := Lib.hid (by
      have hk : Kept [C] W5 ((W5.setCell ⟨C, 1, none⟩ (.int .u64 J)).drew) := ((Kept.refl _ _).setCell (.inl (by simp)) _).drew
      refine ⟨?_, hkE.out.trans' (hk.more (fun x hx => by simp at hx; subst hx; simp))⟩
      rw [← hfin2]
      have h1 : TfAt { s3 with rate := J } l' C P v3 _ := HE.out.put (i := 1) rfl
      exact h1.drewN 1)
    have HRUN := Lib.hid (tfRunOn_any fin (by
      rw [← hfin2]
      have ho := HOK3.out
      exact ⟨ho.b0, by show J < 18446744073709551616; omega, ho.b2, ho.b3, ho.b4⟩) (by rw [← hfin2]; show s3.size ≤ J; rw [hs3s]; exact j6) N (by omega) l' C P v3 _ HF.out.1)
    clear hJ hfin2 j5 j6 hs3s hs3t
    generalize s.size = sz at *
    go_wp2
    go_region_with (fail)
    all_goals
      go_wp2_with (go_at_call 96; (with_reducible refine HRUN.out.mono ?_); rintro e W7 ⟨rfl, ht7, hk7⟩)
      go_end0
      exact ⟨rfl, v3, ht7, HF.out.2.trans' (hk7.more (fun x hx => by simp at hx; subst hx; simp)), HV3.out⟩
end Go.Proofs.YtljlgbjbhokhlaaGreatDoor

namespace Go.Proofs.YtljlgbjbhokhlaaGreatDoor
open Go.ChangeShapes Go.WideShapes Go.ChangeAt Go.RowKit
set_option linter.unusedVariables false
set_option linter.unusedSimpArgs false

/-- Of size S, its answers taking R, so much lost, doubled then, at rate rt. -/
structure TfP (S R loss : Nat) (d : Int) (rt : Nat) (s : TfS) : Prop where
  ok : s.ok
  sz : s.size = S
  rtt : s.rtt = (R : Int)
  loss : s.loss = loss
  dbl : s.doubled = d
  rate : s.rate = rt
theorem mulT_lt (a b : Nat) : M.mulT a b < 18446744073709551616 := by
  unfold M.mulT
  split
  · next h => exact h
  · decide
theorem tfOk_run {s : TfS} (h : s.ok) (d : Int) : (s.run d).ok := ⟨h.b0, h.b1, h.b2, h.b3, h.b4⟩
theorem tfJ_first (S R : Nat) (hS1 : 1 ≤ S) (hS2 : S ≤ 1400) (hR1 : 1 ≤ R) (hR2 : R ≤ 4294967296) (x : Nat) (hx : x ≤ 1125899906842624) (C P : Nat) (v : Value) (w : World) (h : TfAt ⟨S, 64 * S, 0, 0, 0, false, 0, false⟩ [(0, 18446744073709551615)] C P v w) :
    Calls Tryz.prog 38 #[.pointer (some ⟨C, 0, none⟩), .int .i64 0, .int .i64 R, .int .u64 x, .int .u64 0, .bool false] w fun e w' => e = .returned (.tuple #[]) ∧
      ∃ s v', TfP S R 0 0 (max (M.tfInit S R) S) s ∧ TfAt s [(0, 18446744073709551615), (0, x)] C P v' w' ∧ Kept (C :: P :: own v) w w' ∧ (v'.ownBlock = v.ownBlock ∨ ∃ g, v'.ownBlock = some g ∧ w.heap.size ≤ g) := by
  have hok : (⟨S, 64 * S, 0, 0, 0, false, 0, false⟩ : TfS).ok := ⟨⟨hS1, hS2⟩, by simp only; omega, by simp only; omega, by simp only; omega, by simp only; omega⟩
  have hI := M.tfInit_bd S R hS2
  refine (tfHear_first_none ⟨S, 64 * S, 0, 0, 0, false, 0, false⟩ hok 0 R x (by omega) 0 (by omega) R (by omega) rfl x (by omega) (by omega) false [(0, 18446744073709551615)] [(0, 18446744073709551615), (0, x)] _ (mulT_lt 2 (M.maxPr ([(0, 18446744073709551615)] ++ [(0, x)]))) C P v w h (fun W hW => ?_)).mono ?_
  · have h1 := tfLimit_upd ({ (⟨S, 64 * S, 0, 0, 0, false, 0, false⟩ : TfS) with rtt := R, rate := M.tfInit S R, doubled := 0 }) ⟨⟨hS1, hS2⟩, hI, by simp only; omega, by simp only; omega, by simp only; omega⟩ [(0, 18446744073709551615)] (by decide) (by decide) (by simp) 0 x 0 (by omega) (by simp; decide) (fun i hi => by
      have : i = 0 := by simpa using hi
      subst this
      simp only [List.getD_cons_zero]
      omega) C P v W hW
    exact h1
  · rintro e w' ⟨rfl, v', h1, h2, h3⟩
    refine ⟨rfl, _, v', ?_, h1, h2, h3⟩
    exact ⟨tfOk_run ⟨⟨hS1, hS2⟩, by simp only; omega, by simp only; omega, by simp only; omega, by simp only; omega⟩ _, rfl, rfl, rfl, rfl, rfl⟩
theorem tfJ_dbl (S R : Nat) (d : Int) (rt : Nat) (hR1 : 1 ≤ R) (s : TfS) (hs : TfP S R 0 d rt s) (now : Int) (hn : 0 ≤ now ∧ now ≤ 4611686018427387904) (hd : (R : Int) ≤ now - d) (x : Nat) (hx : x < 18446744073709551616) (X : Nat) (hX : min x 1125899906842624 = X) (l : List Pr) (hl : l.length ≤ 8) (h0 : 0 < l.length) (hsm : ∀ p ∈ l, p.2 < 18446744073709551616) (C P : Nat) (v : Value) (w : World) (h : TfAt s l C P v w) :
    Calls Tryz.prog 38 #[.pointer (some ⟨C, 0, none⟩), .int .i64 now, .int .i64 R, .int .u64 x, .int .u64 0, .bool true] w fun e w' => e = .returned (.tuple #[]) ∧
      ∃ s' v', TfP S R 0 now (max (max (min (M.mulT 2 rt) (M.mulT 2 (M.maxNT l X))) (M.tfInit S R)) S) s' ∧ TfAt s' [(now, M.maxNT l X)] C P v' w' ∧ Kept (C :: P :: own v) w w' ∧ (v'.ownBlock = v.ownBlock ∨ ∃ g, v'.ownBlock = some g ∧ w.heap.size ≤ g) := by
  have hb := hs.ok.b2
  have hb0 := hs.ok.b0
  have hr := hs.rtt
  have hsz := hs.sz
  have hI := M.tfInit_bd S R (by omega)
  have hm1 := mulT_lt 2 rt
  refine (tfHear_later_dbl s hs.ok now R x hx now (by omega) R (by omega) (by omega) R (by omega) X hX (by rw [hs.dbl]; exact hd) true l [(now, M.maxNT l X)] _ (mulT_lt 2 (M.maxNT l X)) C P v w h (fun W hW => ?_)).mono ?_
  · exact tfLimit_max { s with rtt := (R : Int) } ⟨hs.ok.b0, hs.ok.b1, by simp only; omega, hs.ok.b3, hs.ok.b4⟩ l hl h0 hsm now now (by omega) X 0 (by omega) (by rw [hs.loss]; omega) C P v W hW
  · rintro e w' ⟨rfl, v', h1, h2, h3⟩
    rw [hs.sz, hs.rate] at h1
    refine ⟨rfl, _, v', ?_, h1, h2, h3⟩
    exact ⟨tfOk_run ⟨by simp only; omega, by simp only; omega, by simp only; omega, by simp only; omega, by simp only; omega⟩ _, rfl, rfl, rfl, rfl, rfl⟩
theorem tfJ_none (S R : Nat) (d : Int) (rt : Nat) (hR1 : 1 ≤ R) (s : TfS) (hs : TfP S R 0 d rt s) (now : Int) (hn : 0 ≤ now ∧ now ≤ 4611686018427387904) (hd : now - d < (R : Int)) (x : Nat) (hx : x < 18446744073709551616) (X : Nat) (hX : min x 1125899906842624 = X) (l : List Pr) (hl : l.length ≤ 8) (h0 : 0 < l.length) (hsm : ∀ p ∈ l, p.2 < 18446744073709551616) (C P : Nat) (v : Value) (w : World) (h : TfAt s l C P v w) :
    Calls Tryz.prog 38 #[.pointer (some ⟨C, 0, none⟩), .int .i64 now, .int .i64 R, .int .u64 x, .int .u64 0, .bool true] w fun e w' => e = .returned (.tuple #[]) ∧
      ∃ s' v', TfP S R 0 d (max rt S) s' ∧ TfAt s' [(now, M.maxNT l X)] C P v' w' ∧ Kept (C :: P :: own v) w w' ∧ (v'.ownBlock = v.ownBlock ∨ ∃ g, v'.ownBlock = some g ∧ w.heap.size ≤ g) := by
  have hb := hs.ok.b2
  have hb0 := hs.ok.b0
  have hb1 := hs.ok.b1
  have hb4 := hs.ok.b4
  have hr := hs.rtt
  have hsz := hs.sz
  have hrt := hs.rate
  refine (tfHear_later_none s hs.ok now R x hx now (by omega) R (by omega) (by omega) R (by omega) X hX (by rw [hs.dbl]; exact hd) true l [(now, M.maxNT l X)] _ (mulT_lt 2 (M.maxNT l X)) C P v w h (fun W hW => ?_)).mono ?_
  · exact tfLimit_max { s with rtt := (R : Int) } ⟨hs.ok.b0, hs.ok.b1, by simp only; omega, hs.ok.b3, hs.ok.b4⟩ l hl h0 hsm now now (by omega) X 0 (by omega) (by rw [hs.loss]; omega) C P v W hW
  · rintro e w' ⟨rfl, v', h1, h2, h3⟩
    rw [hs.sz, hs.rate] at h1
    refine ⟨rfl, _, v', ?_, h1, h2, h3⟩
    exact ⟨tfOk_run ⟨by simp only; omega, by simp only; omega, by simp only; omega, by simp only; omega, by exact hb4⟩ _, rfl, rfl, rfl, hs.dbl, rfl⟩
theorem tfJ_p (S R : Nat) (d : Int) (rt : Nat) (hR1 : 1 ≤ R) (s : TfS) (hs : TfP S R 0 d rt s) (now : Int) (hn : 0 ≤ now ∧ now ≤ 4611686018427387904) (x : Nat) (hx : x ≤ 1125899906842624) (y : Nat) (hy : x * 17 / 20 = y) (p : Nat) (hp0 : 0 < p) (hp : p ≤ 4294967296) (l : List Pr) (hl : l.length ≤ 8) (h0 : 0 < l.length) (hsm : ∀ p ∈ l, p.2 < 18446744073709551616) (C P : Nat) (v : Value) (w : World) (h : TfAt s l C P v w) :
    Calls Tryz.prog 38 #[.pointer (some ⟨C, 0, none⟩), .int .i64 now, .int .i64 R, .int .u64 x, .int .u64 p, .bool true] w fun e w' => e = .returned (.tuple #[]) ∧
      ∃ s' v', TfP S R p d (max (min (M.eqnRate S R p) (M.maxNT (l.map M.halfPr) y)) S) s' ∧ TfAt s' [(now, M.maxNT (l.map M.halfPr) y)] C P v' w' ∧ Kept (C :: P :: own v) w w' ∧ (v'.ownBlock = v.ownBlock ∨ ∃ g, v'.ownBlock = some g ∧ w.heap.size ≤ g) := by
  have hb := hs.ok.b2
  have hb0 := hs.ok.b0
  have hb1 := hs.ok.b1
  have hb4 := hs.ok.b4
  have hr := hs.rtt
  have hsz := hs.sz
  have hrt := hs.rate
  have hsm2 : ∀ p ∈ l.map M.halfPr, p.2 < 18446744073709551616 := by
    intro p hp
    obtain ⟨q, hq, rfl⟩ := List.mem_map.1 hp
    have := hsm q hq
    unfold M.halfPr
    split
    · exact this
    · simp only; omega
  have hM := M.maxNT_lt (l.map M.halfPr) y (by omega) hsm2
  refine (tfHear_later_p s hs.ok now R x (by omega) now (by omega) R (by omega) (by omega) R (by omega) x (by omega) p p (by omega) (by omega) hp0 true l [(now, M.maxNT (l.map M.halfPr) y)] _ hM C P v w h (fun W hW => ?_)).mono ?_
  · exact tfLimit_more { s with rtt := (R : Int) } ⟨hs.ok.b0, hs.ok.b1, by simp only; omega, hs.ok.b3, hs.ok.b4⟩ l hl h0 hsm now now (by omega) x p y hx hy (by rw [hs.loss]; omega) C P v W hW
  · rintro e w' ⟨rfl, v', h1, h2, h3⟩
    rw [hs.sz] at h1
    generalize M.eqnRate S R p = G at h1 ⊢
    generalize M.maxNT (l.map M.halfPr) y = z at h1 hM ⊢
    refine ⟨rfl, _, v', ?_, h1, h2, h3⟩
    exact ⟨tfOk_run ⟨by simp only; omega, by simp only; omega, by simp only; omega, by simp only; omega, by exact hb4⟩ _, rfl, rfl, rfl, hs.dbl, rfl⟩
end Go.Proofs.YtljlgbjbhokhlaaGreatDoor
