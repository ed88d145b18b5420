/-
  Package rset: an Update of which the one that was there is too old.
  Package tfrc: the first time that something is heard, whatever it is.
  What the laid table of the weights says.
  The law TfrcLimited, walked.
  The law TfrcHalves, walked.
-/
import Derived.Test.YtljlgbjbhokhlaaGreatDoorLfT
import Derived.Lib.SliceRun
import Derived.Test.YtljlgbjbhokhlaaGreatDoorIvalA
import Derived.Test.YtljlgbjbhokhlaaGreatDoorRows
import Derived.Lib.LaidU8
import Derived.Lib.LaidTab
import Derived.MakeChecks
import Derived.OpenShut
import Derived.Test.YtljlgbjbhokhlaaGreatDoorBegun8
namespace Go.Proofs.YtljlgbjbhokhlaaGreatDoor
open Go.ChangeShapes Go.WideShapes Go.ChangeAt Go.RowKit
set_option linter.unusedVariables false
set_option linter.unusedSimpArgs false

theorem indexFunc_first (l : List Pr) (v : Value) (Bx : Nat) (least : Int) (w : World) (hr : PrRow l v w) (hc : w.cell? ⟨Bx, 0, none⟩ = some (.int .i64 least)) (h0 : 0 < l.length) (hl : l.length ≤ 1000) (hold : (l.getD 0 (0, 0)).1 < least) :
    Calls Tryz.prog 186 #[v, .func (.func 154) #[] #[.pointer (some ⟨Bx, 0, none⟩)]] w fun e w' => e = .returned (.int .i64 0) ∧ Below w.heap.size w w' := by
  have HU := Lib.hid (upd1_any (l.getD 0 (0, 0)) Bx least w hc)
  obtain ⟨g, c, rfl, hc1, hc2, hg, hcell, _, _⟩ := hr.shape h0
  obtain ⟨x0, x1⟩ := hcell 0 h0
  rw [decide_eq_true hold] at HU
  generalize l.getD 0 (0, 0) = p at *
  obtain ⟨a, x⟩ := p
  simp only [Nat.zero_mul, Nat.zero_add] at x0 x1 HU
  have hl0 : decide ((0 : Int) < (l.length : Int)) = true := decide_eq_true (by omega)
  generalize l.length = N at *
  clear hr hcell hc hold
  go_enter Tryz.func186, Tryz.ntmps186
  go_wp2
  refine wp_loop_rounds 1 ?_
  rw [rounds_succ]
  go_wp2_with (go_at_call 154; (with_reducible refine HU.out.mono ?_); rintro e w1 ⟨rfl, hb1⟩)
  go_ret
  exact ⟨rfl, hb1⟩
/-- What is written behind a row leaves it. -/
theorem PrRow.setFar {l : List Pr} {g n c : Nat} {w : World} (h : PrRow l (.slice (some ⟨g, 0, none⟩) n c) w) (k : Nat) (hk : l.length * 2 ≤ k) (u : Value) : PrRow l (.slice (some ⟨g, 0, none⟩) n c) (w.setCell ⟨g, k, none⟩ u) := by
  refine ⟨h.1, ?_⟩
  rcases h.2 with ⟨hv, h0⟩ | ⟨g', cap, cur, hv, hB, hg', hcap, hcm, hs, ht⟩
  · cases hv
  · injection hv with e1 e2 e3
    injection e1 with e1
    injection e1 with e1
    subst e1 e2 e3
    refine .inr ⟨g, c, cur.setIfInBounds k u, rfl, hB, heap_setCell_same w g _ _ _ _ hg', hcap, hcm, by rw [Array.size_setIfInBounds]; exact hs, ?_⟩
    rw [Array.toList_setIfInBounds, List.take_set, List.set_eq_of_length_le (by rw [List.length_take]; omega)]
    exact ht
/-- 'clear' of one pair. -/
theorem run_clear_pr1 (w : World) (ty : TypeId) (b o c : Nat) (h0 : (w.cell? ⟨b, o, none⟩).isSome = true) (h1 : (w.cell? ⟨b, o + 1, none⟩).isSome = true) (f0 : w.frozen? ⟨b, o, none⟩ = false) (f1 : w.frozen? ⟨b, o + 1, none⟩ = false) :
    (Builtin.clear_ #[149] ty #[.slice (some ⟨b, o, none⟩) 1 c]).run Tryz.prog w = .ok (.tuple #[]) (w.setCells b o [.int .i64 0, .int .u64 0]) := by
  have hst := run_storeCells_cells (P := Tryz.prog) b o [.int .i64 0, .int .u64 0] 0 w (by
    intro j hj
    rcases j with _ | _ | j
    · simpa using h0
    · simpa using h1
    · simp at hj; omega) (by
    intro j hj
    rcases j with _ | _ | j
    · simpa using f0
    · simpa using f1
    · simp at hj; omega) (by intro v hv; simp at hv; rcases hv with rfl | rfl <;> rfl)
  simp only [Nat.add_zero] at hst
  have hz : (Builtin.zeroCells (Value.agg #[.int .i64 0, .int .u64 0]).cells 1).toList = [.int .i64 0, .int .u64 0] := by simp [Builtin.zeroCells, Value.cells]; rfl
  simp [Builtin.clear_, run_underlying Tryz.underlying149, Tryz.zeroValue148, hz, hst]
/-- The first of two goes, the second one takes its place. -/
theorem deleteFunc_first (p q : Pr) (v : Value) (Bx : Nat) (least : Int) (w : World) (hr : PrRow [p, q] v w) (hc : w.cell? ⟨Bx, 0, none⟩ = some (.int .i64 least)) (hBx : ∀ g, v.ownBlock = some g → g ≠ Bx) (h1 : p.1 < least) (h2 : least ≤ q.1) :
    Calls Tryz.prog 153 #[v, .func (.func 154) #[] #[.pointer (some ⟨Bx, 0, none⟩)]] w fun e w' => ∃ g c, v = .slice (some ⟨g, 0, none⟩) 2 c ∧ e = .returned (.slice (some ⟨g, 0, none⟩) 1 c) ∧ PrRow [q] (.slice (some ⟨g, 0, none⟩) 1 c) w' ∧ Kept [g] w w' := by
  have hi0 := indexFunc_first [p, q] v Bx least w hr hc (by simp) (by simp) h1
  obtain ⟨g, c, rfl, hc1, hc2, hg, hcell, hfr, cur, hcur⟩ := hr.shape (by simp)
  have hgB := hBx g rfl
  have HR := Lib.hid hr
  have hlt : Bx < w.heap.size := World.block_lt_of_cell? w _ hc
  simp only [List.length_cons, List.length_nil, Nat.zero_add, Nat.reduceAdd] at hc1 hi0 hr ⊢
  have HI := Lib.hid hi0
  clear hi0
  have HCE : Hid (∀ W, Below w.heap.size w W → W.cell? ⟨g, 2, none⟩ = some (.int .i64 q.1) ∧ W.cell? ⟨g, 3, none⟩ = some (.int .u64 q.2) ∧ W.cell? ⟨g, 0, none⟩ = some (.int .i64 p.1) ∧ W.cell? ⟨g, 1, none⟩ = some (.int .u64 p.2) ∧ W.frozen? ⟨g, 0, none⟩ = false ∧ W.frozen? ⟨g, 1, none⟩ = false ∧ W.frozen? ⟨g, 2, none⟩ = false ∧ W.frozen? ⟨g, 3, none⟩ = false ∧ W.cell? ⟨Bx, 0, none⟩ = some (.int .i64 least)) := Lib.hid (fun W hW => by
    obtain ⟨a0, a1⟩ := hcell 0 (by simp)
    obtain ⟨b0, b1⟩ := hcell 1 (by simp)
    have k := Kept.of_below [] hW
    exact ⟨(k.cellS hg (by simp)).trans b0, (k.cellS hg (by simp)).trans b1, (k.cellS hg (by simp)).trans a0, (k.cellS hg (by simp)).trans a1, (k.frozenS (p := ⟨g, 0, none⟩) hg (by simp)).trans (hfr 0), (k.frozenS (p := ⟨g, 1, none⟩) hg (by simp)).trans (hfr 1), (k.frozenS (p := ⟨g, 2, none⟩) hg (by simp)).trans (hfr 2), (k.frozenS (p := ⟨g, 3, none⟩) hg (by simp)).trans (hfr 3), (k.cellS hlt (by simp)).trans hc⟩)
  have HUQ : Hid (∀ W, W.cell? ⟨Bx, 0, none⟩ = some (.int .i64 least) → Calls Tryz.prog 154 #[.agg #[.int .i64 q.1, .int .u64 q.2], .pointer (some ⟨Bx, 0, none⟩)] W fun e w' => e = .returned (.bool false) ∧ Below W.heap.size W w') := Lib.hid (fun W hW => by
    have h3 := upd1_any q Bx least W hW
    rw [decide_eq_false (by omega)] at h3
    exact h3)
  clear hr hcell hfr hcur hc hBx h1 h2
  obtain ⟨qa, qx⟩ := q
  obtain ⟨pa, px⟩ := p
  simp only at HCE HUQ
  go_enter Tryz.func153, Tryz.ntmps153
  go_upto_region 4 with (go_at_call 186; (with_reducible refine HI.out.mono ?_); rintro e w1 ⟨rfl, hb1⟩)
  obtain ⟨a2, a3, a0, a1, f0, f1, f2, f3, bx⟩ := HCE.out w1 hb1
  have n0 : ∀ o, (w1.alloc o).cell? ⟨Bx, 0, none⟩ = some (.int .i64 least) := fun o => by rw [World.cell?_alloc_some _ _ _ (by rw [bx]; rfl)]; exact bx
  have hB1 := Lib.hid hb1
  clear hb1 f0 f1 f2 f3 a0 a1
  go_wp2
  refine wp_loop_rounds 2 ?_
  rw [rounds_succ]
  go_upto_region 9 with (go_at_call 154; (with_reducible refine (HUQ.out _ (n0 _)).mono ?_); rintro e w2 ⟨rfl, hb2⟩)
  have HB2 : Hid (Below w.heap.size w w2) := Lib.hid (bel_trans (bel_trans hB1.out (bel_alloc _ _)) hb2)
  have kbx : BlkIs #[.int .i64 qa, .int .u64 qx] 148 w1.heap.size w2 := BlkIs.below (BlkIs.new #[.int .i64 qa, .int .u64 qx] 148 w1) hb2
  have HNG : Hid (w1.heap.size ≠ g) := Lib.hid (by have := hB1.out.size; omega)
  clear a2 a3 bx n0 hb2
  obtain ⟨a2, a3, a0, a1, f0, f1, f2, f3, bx⟩ := HCE.out w2 HB2.out
  have b0 : w2.cell? ⟨w1.heap.size, 0, none⟩ = some (.int .i64 qa) := BlkIs.cell kbx 0
  have b1 : w2.cell? ⟨w1.heap.size, 1, none⟩ = some (.int .u64 qx) := BlkIs.cell kbx 1
  clear kbx bx
  generalize w1.heap.size = Eb at *
  go_wp2
  rw [rounds_succ]
  go_upto_region 11 with fail
  obtain ⟨W6, hW6⟩ : ∃ W6, (w2.setCell ⟨g, 0, none⟩ (.int .i64 qa)).setCell ⟨g, 1, none⟩ (.int .u64 qx) = W6 := ⟨_, rfl⟩
  have HK6 : Hid (Kept [g] w W6) := Lib.hid (by rw [← hW6]; exact ((Kept.of_below [g] HB2.out).setCell (.inl (by simp)) _).setCell (.inl (by simp)) _)
  have HR6 : Hid (PrRow [(qa, qx)] (.slice (some ⟨g, 0, none⟩) 1 c) W6) := Lib.hid (by
    have h5 := HR.out.kept (Kept.of_below [] HB2.out) (by simp)
    rcases h5.2 with ⟨hv, h0⟩ | ⟨g', cap, cur, hv, hB, hg', hcap, hcm, hs, ht⟩
    · cases hv
    · injection hv with e1 e2 e3
      injection e1 with e1
      injection e1 with e1
      subst e1 e3
      rw [← hW6]
      have k1 := heap_setCell_same w2 g 0 _ _ (.int .i64 qa) hg'
      have k2 := heap_setCell_same _ g 1 _ _ (.int .u64 qx) k1
      refine ⟨rfl, .inr ⟨g, c, _, rfl, hB, k2, by simp only [List.length_cons, List.length_nil]; omega, hcm, by simp only [Array.size_setIfInBounds]; exact hs, ?_⟩⟩
      have hsz : 2 ≤ cur.size := by
        have h6 := congrArg List.length ht
        rw [List.length_take] at h6
        simp [prList] at h6
        omega
      rw [Array.toList_setIfInBounds, Array.toList_setIfInBounds]
      have hcl : 2 ≤ cur.toList.length := by simpa using hsz
      revert hcl
      generalize cur.toList = L
      intro hcl
      rcases L with _ | ⟨a, _ | ⟨b, L⟩⟩
      · simp at hcl
      · simp at hcl
      · rfl)
  have z2 : W6.cell? ⟨g, 2, none⟩ = some (.int .i64 qa) := by rw [← hW6, World.cell?_setCell_other _ _ _ _ (fun h2 => by have := congrArg Addr.off h2; simp at this), World.cell?_setCell_other _ _ _ _ (fun h2 => by have := congrArg Addr.off h2; simp at this)]; exact a2
  have z3 : W6.cell? ⟨g, 3, none⟩ = some (.int .u64 qx) := by rw [← hW6, World.cell?_setCell_other _ _ _ _ (fun h2 => by have := congrArg Addr.off h2; simp at this), World.cell?_setCell_other _ _ _ _ (fun h2 => by have := congrArg Addr.off h2; simp at this)]; exact a3
  have y2 : W6.frozen? ⟨g, 2, none⟩ = false := by rw [← hW6, World.frozen?_setCell, World.frozen?_setCell]; exact f2
  have y3 : W6.frozen? ⟨g, 3, none⟩ = false := by rw [← hW6, World.frozen?_setCell, World.frozen?_setCell]; exact f3
  have hclr : ∀ ty cc, (Builtin.clear_ #[149] ty #[.slice (some ⟨g, 2, none⟩) 1 cc]).run Tryz.prog W6 = .ok (.tuple #[]) (W6.setCells g 2 [.int .i64 0, .int .u64 0]) := fun ty cc => run_clear_pr1 W6 ty g 2 cc (by rw [z2]; rfl) (by rw [z3]; rfl) y2 y3
  rw [hW6]
  clear hW6 a0 a1 a2 a3 b0 b1 f0 f1 f2 f3 z2 z3 y2 y3
  go_wp2
  go_ret
  refine ⟨g, c, rfl, rfl, ?_, ?_⟩
  · exact (HR6.out.setFar 2 (by simp) (.int .i64 0)).setFar 3 (by simp) (.int .u64 0)
  · exact (HK6.out.setCell (.inl (by simp)) _).setCell (.inl (by simp)) _
set_option maxHeartbeats 2000000 in
set_option maxRecDepth 100000 in
/-- An Update, and the one that was there is too old. -/
theorem rsetUpdate_drop (p0 : Pr) (x : Nat) (now r : Int) (hlast : p0.1 ≤ max 0 (min now 4611686018427387904))
    (hall : p0.1 < max 0 (min now 4611686018427387904) - 2 * max 0 (min r 1099511627776)) (P : Nat) (v : Value) (w : World) (h : SetAt [p0] P v w) :
    Calls Tryz.prog 126 #[.pointer (some ⟨P, 0, none⟩), .int .u64 x, .int .i64 now, .int .i64 r] w fun e w' => e = .returned (.tuple #[]) ∧ ∃ g c, SetAt [(max 0 (min now 4611686018427387904), x)] P (.slice (some ⟨g, 0, none⟩) 1 c) w' ∧ Kept (P :: own v) w w' ∧ (v.ownBlock = some g ∨ w.heap.size ≤ g) := by
  have HN := Lib.hid (fun W => rsetWithin_any now 4611686018427387904 (by decide) W)
  have HRr := Lib.hid (fun W => rsetWithin_any r 1099511627776 (by decide) W)
  obtain ⟨A, hA⟩ : ∃ A, max 0 (min now 4611686018427387904) = A := ⟨_, rfl⟩
  obtain ⟨R, hR⟩ : ∃ A, max 0 (min r 1099511627776) = A := ⟨_, rfl⟩
  have hAb : 0 ≤ A ∧ A ≤ 4611686018427387904 := by omega
  have hRb : 0 ≤ R ∧ R ≤ 1099511627776 := by omega
  rw [hA] at HN hlast hall ⊢
  rw [hR] at HRr hall
  obtain ⟨a0, a1⟩ := hAb
  obtain ⟨r0, r1⟩ := hRb
  have HH := Lib.hid h
  have HLAST := Lib.hid hlast
  have HALL := Lib.hid hall
  obtain ⟨L, hL⟩ : ∃ L, A - 2 * R = L := ⟨_, rfl⟩
  have HLe := Lib.hid hL
  have HPUT : Hid (∀ W, SetAt [p0] P v W → _) := Lib.hid (fun W hW => rsetPut_end [p0] (by simp) (by simp) (A, x) (by simpa using hlast) P v W hW)
  have HBOX : Hid (BlkIs #[.int .i64 L] 2 w.heap.size (w.alloc (.cells #[.int .i64 L] 2))) := Lib.hid (BlkIs.new _ _ _)
  have HSB : Hid (SetAt [p0] P v (w.alloc (.cells #[.int .i64 L] 2))) := Lib.hid (HH.out.below (bel_alloc _ _))
  have hPlt := h.set.lt
  clear hA hR hlast hall h
  go_enter Tryz.func126, Tryz.ntmps126
  go_upto_region 3 with (first
    | (go_at_call 130; (with_reducible refine (HN.out _).mono ?_); rintro e w1 ⟨rfl, rfl⟩)
    | (go_at_call 130; (with_reducible refine (HRr.out _).mono ?_); rintro e w1 ⟨rfl, rfl⟩))
  obtain ⟨W1, hW1⟩ : ∃ W1, w.alloc (.cells #[.int .i64 L] 2) = W1 := ⟨_, rfl⟩
  rw [hW1] at HBOX HSB ⊢
  have HK1 : Hid (Kept [] w W1) := Lib.hid (by rw [← hW1]; exact Kept.of_below _ (bel_alloc _ _))
  have HSZ : Hid (P < w.heap.size ∧ w.heap.size < W1.heap.size ∧ ∀ g, v.ownBlock = some g → g < w.heap.size) := Lib.hid ⟨hPlt, by rw [← hW1]; simp, fun g hg => (HH.out.row.lt g hg).2⟩
  clear hW1 hPlt hL
  obtain ⟨B, hB⟩ : ∃ B, w.heap.size = B := ⟨_, rfl⟩
  rw [hB] at HBOX HSZ ⊢
  have HBe := Lib.hid hB
  clear hB
  go_upto_region 4 with (go_at_call 152; (with_reducible refine (HPUT.out _ HSB.out).mono ?_); rintro e W2 ⟨rfl, g, c, hs2, hk2, hat2⟩)
  have HB2 : Hid (BlkIs #[.int .i64 L] 2 B W2) := Lib.hid (HBOX.out.kept hk2 (by
    have h1 := HSZ.out
    intro hm
    rcases List.mem_cons.1 hm with h2 | h2
    · omega
    · have h3 : v.ownBlock = some B := by
        unfold own at h2
        cases hv : v.ownBlock with
        | none => rw [hv] at h2; simp at h2
        | some q => rw [hv] at h2; simp at h2; rw [h2]
      have := h1.2.2 B h3
      omega))
  have HS2 := Lib.hid hs2
  have HK2 : Hid (Kept (P :: own v) w W2) := Lib.hid ((HK1.out.more (fun x hx => by cases hx)).trans' hk2)
  have HAT : Hid (v.ownBlock = some g ∨ w.heap.size ≤ g) := Lib.hid (by
    rcases hat2 with h | h
    · exact .inl h
    · exact .inr (Nat.le_trans HK1.out.size h))
  have hgb : ∀ q, (Value.slice (some ⟨g, 0, none⟩) 2 c).ownBlock = some q → q ≠ B := fun q hq => by
    have e : g = q := by simpa [Value.ownBlock] using hq
    subst e
    intro e2
    subst e2
    have h1 := HB2.out.lt
    rcases hat2 with h | h
    · have := HSZ.out.2.2 _ h; omega
    · have := HSZ.out; omega
  have HDEL := Lib.hid (deleteFunc_first p0 (A, x) (.slice (some ⟨g, 0, none⟩) 2 c) B L W2 hs2.row (BlkIs.cell HB2.out 0) hgb (by have h4 := HLe.out; have h5 := HALL.out; omega) (by have h4 := HLe.out; simp only; omega))
  have c0 : W2.cell? ⟨P, 0, none⟩ = some (.slice (some ⟨g, 0, none⟩) 2 c) := BlkIs.cell hs2.set 0
  have HPG : Hid (g ≠ P) := Lib.hid (hs2.ne g rfl)
  have HST2 := Lib.hid hs2.set
  have hcap : 2 ≤ c ∧ c ≤ 9223372036854775807 := by
    obtain ⟨g', c', e1, e2, e3, _⟩ := hs2.row.shape (by simp)
    injection e1 with _ _ e4
    simp at e2
    omega
  obtain ⟨hcap1, hcap2⟩ := hcap
  clear hs2 hk2 hat2 hgb HPUT HSB HBOX
  have HDL := Lib.hid (fun W => deletePr_none g 1 c (by omega) hcap2 W)
  go_upto_region 5 with (go_at_call 153; (with_reducible refine HDEL.out.mono ?_); rintro e W3 ⟨g3, c3, e3, rfl, hr3, hk3⟩; injection e3 with e3 _ e4; injection e3 with e3; injection e3 with e3; subst e3 e4; have hs3 := BlkIs.kept HST2.out hk3 (by simp; exact fun e => HPG.out e.symm); have f3 := BlkIs.free hs3 0; have c3 : W3.cell? ⟨P, 0, none⟩ = some (.slice (some ⟨g, 0, none⟩) 2 c) := BlkIs.cell hs3 0)
  obtain ⟨W4, hW4⟩ : ∃ W4, W3.setCell ⟨P, 0, none⟩ (.slice (some ⟨g, 0, none⟩) 1 c) = W4 := ⟨_, rfl⟩
  have HS4 : Hid (SetAt [(A, x)] P (.slice (some ⟨g, 0, none⟩) 1 c) W4) := Lib.hid (by
    rw [← hW4]
    exact ⟨BlkIs.set hs3 0 _, hr3.kept ((Kept.refl [P] W3).setCell (.inl (by simp)) _) (fun q hq => by
      have : g = q := by simpa [Value.ownBlock] using hq
      have := HPG.out
      simp; omega)⟩)
  have HK4 : Hid (Kept (P :: own v) w W4 ∨ w.heap.size ≤ g ∧ Kept (P :: g :: own v) w W4) := Lib.hid (by
    rw [← hW4]
    rcases HAT.out with h | h
    · left
      exact (HK2.out.trans' (hk3.more (fun z hz => by simp at hz; subst hz; simp [own, h]))).setCell (.inl (by simp)) _
    · right
      exact ⟨h, ((HK2.out.more (fun z hz => by simp at hz ⊢; rcases hz with hz | hz; exact .inl hz; exact .inr (.inr hz))).trans' (hk3.more (by simp))).setCell (.inl (by simp)) _⟩)
  rw [hW4]
  clear hW4 hs3 f3 c3 hk3 hr3 c0
  have c4 : W4.cell? ⟨P, 0, none⟩ = some (.slice (some ⟨g, 0, none⟩) 1 c) := BlkIs.cell HS4.out.set 0
  have f4 := BlkIs.free HS4.out.set 0
  have i5 : decide ((0 : Int) < (1 : Int) - 8) = false := by decide
  have HKF : Hid (Kept (P :: own v) w W4) := Lib.hid (by
    rcases HK4.out with h | ⟨h, k⟩
    · exact h
    · exact ⟨k.os, k.tape, k.output, k.size, fun z hz hn => k.block z hz (fun hm => by
        rcases List.mem_cons.1 hm with e | e
        · exact hn (by simp [e])
        · rcases List.mem_cons.1 e with e | e
          · omega
          · exact hn (by simp [e]))⟩)
  go_wp2
  go_region_with (go_at_call 155; (first | (with_reducible refine (HDL.out _).mono ?_) | (simp only [show max (0 : Int) (IntKind.i64.wrap (-7)) = 0 by decide]; with_reducible refine (HDL.out _).mono ?_)); rintro e w1 ⟨rfl, rfl⟩)
  all_goals
    go_wp2
    go_end0
    refine ⟨rfl, g, c, ?_, (HKF.out.setCell (.inl (by simp)) _).drew, HAT.out⟩
    exact ⟨BlkIs.set HS4.out.set 0 _, HS4.out.row.kept (((Kept.refl [P] W4).setCell (.inl (by simp)) _).drew) (fun q hq => by
      have : g = q := by simpa [Value.ownBlock] using hq
      have := HPG.out
      simp; omega)⟩
end Go.Proofs.YtljlgbjbhokhlaaGreatDoor

namespace Go.Proofs.YtljlgbjbhokhlaaGreatDoor
open Go.ChangeShapes Go.WideShapes Go.ChangeAt Go.RowKit
set_option linter.unusedVariables false
set_option linter.unusedSimpArgs false

set_option maxHeartbeats 1000000 in
/-- What was told takes the place of what was there. -/
theorem tfLimit_drop (s : TfS) (hs : s.ok) (p0 : Pr) (now : Int) (x p : Nat) (hx : x < 18446744073709551616)
    (hlast : p0.1 ≤ max 0 (min now 4611686018427387904))
    (hall : p0.1 < max 0 (min now 4611686018427387904) - 2 * max 0 (min s.rtt 1099511627776)) (C P : Nat) (v : Value) (w : World) (h : TfAt s [p0] C P v w) :
    Calls Tryz.prog 94 #[.pointer (some ⟨C, 0, none⟩), .int .i64 now, .int .u64 x, .int .u64 p, .bool false] w fun e w' => e = .returned (.int .u64 (M.mulT 2 (M.maxPr [(max 0 (min now 4611686018427387904), x)]))) ∧
      ∃ v', TfAt s [(max 0 (min now 4611686018427387904), x)] C P v' w' ∧ Kept (P :: own v) w w' ∧ (v'.ownBlock = v.ownBlock ∨ ∃ g, v'.ownBlock = some g ∧ w.heap.size ≤ g) := by
  have c2 : w.cell? ⟨C, 2, none⟩ = some (.int .i64 s.rtt) := BlkIs.cell h.tf 2
  have c4 : w.cell? ⟨C, 4, none⟩ = some (.pointer (some ⟨P, 0, none⟩)) := BlkIs.cell h.tf 4
  have HH := Lib.hid h
  have HU : Hid (∀ W, SetAt [p0] P v W → _) := Lib.hid (fun W hW => rsetUpdate_drop p0 x now s.rtt hlast hall P v W hW)
  obtain ⟨q, hq⟩ : ∃ q, (max 0 (min now 4611686018427387904), x) = q := ⟨_, rfl⟩
  rw [hq] at HU ⊢
  have hM : M.maxPr [q] < 18446744073709551616 := M.maxPr_lt _ (fun p hp => by
    simp at hp; subst hp; rw [← hq]; exact hx)
  have HMX : Hid (∀ P v W, SetAt [q] P v W → _) := Lib.hid (fun P v W hW => rsetMax_any [q] (by simp) (by simp) P v W hW)
  have HMU : Hid (∀ W, Calls Tryz.prog 95 #[.int .u64 2, .int .u64 (M.maxPr [q])] W fun e w' => e = .returned (.int .u64 (M.mulT 2 (M.maxPr [q]))) ∧ W = w') := Lib.hid (fun W => fixMul_any 2 _ (by decide) hM W)
  have HNC : Hid (C ∉ P :: own v) := Lib.hid (by
    intro hm
    rcases List.mem_cons.1 hm with h1 | h1
    · exact h.ne h1
    · unfold own at h1
      cases hv : v.ownBlock with
      | none => rw [hv] at h1; simp at h1
      | some g => rw [hv] at h1; simp at h1; exact h.ne2 g hv h1.symm)
  generalize M.mulT 2 (M.maxPr [q]) = R at *
  generalize M.maxPr [q] = m at *
  clear h hs hlast hall
  go_enter Tryz.func94, Tryz.ntmps94
  go_wp2
  have HDR : Hid (∀ n, SetAt [p0] P v (w.drewN n)) := Lib.hid (fun n => HH.out.set.drewN n)
  have HD1 : Hid (SetAt [p0] P v w.drew) := Lib.hid ⟨HH.out.set.set, HH.out.set.row⟩
  go_region_with ((go_at_call 126; (with_reducible refine (HU.out _ ?_).mono ?_); (exact HD1.out); rintro e W2 ⟨rfl, g, c, hs2, hk2, hat2⟩; have HT2 : Hid (BlkIs (tfCells s P) 126 C W2) := Lib.hid (BlkIs.kept (BlkIs.drewN HH.out.tf 1) hk2 HNC.out); have c4' : W2.cell? ⟨C, 4, none⟩ = some (.pointer (some ⟨P, 0, none⟩)) := BlkIs.cell HT2.out 4))
  all_goals
    go_wp2_with (first
      | (go_at_call 70; (with_reducible refine (HMX.out _ _ _ hs2).mono ?_); rintro e W3 ⟨rfl, hb3⟩)
      | (go_at_call 95; (with_reducible refine (HMU.out _).mono ?_); rintro e W4 ⟨rfl, rfl⟩))
    go_ret
    have hk3 : Kept (P :: own v) w W3 := ((Kept.refl (P :: own v) w).drew.trans' hk2).trans' (Kept.of_below _ hb3)
    refine ⟨rfl, _, ⟨HT2.out.below hb3, hs2.below hb3, HH.out.ne, ?_⟩, hk3, ?_⟩
    · intro q hq
      have hgq : g = q := by simpa [Value.ownBlock] using hq
      subst hgq
      rcases hat2 with h1 | h1
      · exact HH.out.ne2 g h1
      · have := HH.out.tf.lt; have h3 : w.heap.size ≤ g := h1; omega
    · rcases hat2 with h1 | h1
      · exact .inl (by rw [h1]; rfl)
      · exact .inr ⟨g, rfl, h1⟩
theorem tfWait_bd (s : TfS) (hs : s.ok) (hsr : s.size ≤ s.rate) (h1 : 1 ≤ s.rtt) : 4 ≤ M.tfWait s ∧ M.tfWait s ≤ 17179869184 := by
  unfold M.tfWait
  have h2 := hs.b2
  have h3 := hs.b0
  have h4 : 128 * s.size * 1000000 / s.rate ≤ 128000000 := Nat.div_le_of_le_mul (by omega)
  omega
/-- Left alone, i times it has fallen. -/
structure HvI (S i : Nat) (now : Int) (s : TfS) : Prop where
  ok : s.ok
  sz : s.size = S
  rt : 1 ≤ s.rtt
  rg : S ≤ s.rate
  n1 : 0 ≤ now
  n2 : now ≤ 1000 + (i : Int) * 17179869184
  st : (s.runs = true ∧ s.due = M.tfDue (M.tfWait s) now ∧ s.rate * 2 ^ i < 18446744073709551616) ∨ (s.runs = false ∧ s.rate = S)
theorem HvI.due {S i : Nat} {now : Int} {s : TfS} (h : HvI S i now s) (hi : i ≤ 70) (hr : s.runs = true) : s.due = now + M.tfWait s ∧ 4 ≤ M.tfWait s ∧ M.tfWait s ≤ 17179869184 := by
  obtain ⟨a, b⟩ := tfWait_bd s h.ok (by rw [h.sz]; exact h.rg) h.rt
  refine ⟨?_, a, b⟩
  rcases h.st with ⟨h1, h2, h3⟩ | ⟨h1, _⟩
  · rw [h2]
    have := h.n1
    have := h.n2
    unfold M.tfDue
    omega
  · rw [h1] at hr; cases hr
theorem HvI.low {S i : Nat} {now : Int} {s : TfS} (h : HvI S i now s) (hr : s.runs = true) : i < 64 := by
  rcases h.st with ⟨h1, h2, h3⟩ | ⟨h1, _⟩
  · have h5 : 1 ≤ s.rate := by have := h.rg; have := h.ok.b0; have := h.sz; omega
    rcases Nat.lt_or_ge i 64 with h4 | h4
    · exact h4
    · exfalso
      have h6 : 2 ^ 64 ≤ 2 ^ i := Nat.pow_le_pow_right (by decide) h4
      have h7 : 1 * 2 ^ i ≤ s.rate * 2 ^ i := Nat.mul_le_mul_right _ h5
      have h8 : (2 : Nat) ^ 64 = 18446744073709551616 := by decide
      omega
  · rw [h1] at hr; cases hr
theorem HvI.next {S i : Nat} {now : Int} {s : TfS} (h : HvI S i now s) (hr : s.runs = true) : HvI S (i + 1) s.due (s.fire s.due) := by
  have hi := h.low hr
  obtain ⟨d1, d2, d3⟩ := h.due (by omega) hr
  have hsz := h.sz
  have hrg := h.rg
  have n1 := h.n1
  have n2 := h.n2
  refine ⟨TfS.fire_ok h.ok (by omega) _, by rw [TfS.fire_size]; exact hsz, by rw [TfS.fire_rtt]; exact h.rt, by rw [TfS.fire_rate]; omega, by omega, by omega, ?_⟩
  unfold TfS.fire
  by_cases e : s.half.rate = s.size
  · rw [if_pos e]
    exact .inr ⟨rfl, by rw [← hsz, ← e]⟩
  · rw [if_neg e]
    refine .inl ⟨rfl, rfl, ?_⟩
    rcases h.st with ⟨h1, h2, h3⟩ | ⟨h1, _⟩
    · have h4 : s.half.rate = s.rate / 2 := by
        have : s.half.rate = max (s.rate / 2) s.size := rfl
        omega
      show s.half.rate * 2 ^ (i + 1) < _
      rw [h4, Nat.pow_succ]
      have h5 : s.rate / 2 * 2 ≤ s.rate := by omega
      have h6 : s.rate / 2 * 2 * 2 ^ i ≤ s.rate * 2 ^ i := Nat.mul_le_mul_right _ h5
      have h7 : s.rate / 2 * (2 ^ i * 2) = s.rate / 2 * 2 * 2 ^ i := by rw [Nat.mul_comm (2 ^ i) 2, Nat.mul_assoc]
      omega
    · rw [h1] at hr; cases hr
theorem mulT_ltK (a b : Nat) : M.mulT a b < 18446744073709551616 := by
  unfold M.mulT
  split
  · next h => exact h
  · decide
set_option maxHeartbeats 1000000 in
theorem tfHear_start (s : TfS) (hs : s.ok) (hr : s.rtt = 0) (sample : Int) (x p : Nat) (hx : x < 18446744073709551616) (hp : p < 18446744073709551616) (C P : Nat) (v : Value) (w : World) (h : TfAt s [(0, 18446744073709551615)] C P v w) :
    Calls Tryz.prog 38 #[.pointer (some ⟨C, 0, none⟩), .int .i64 1000, .int .i64 sample, .int .u64 x, .int .u64 p, .bool false] w fun e w' => e = .returned (.tuple #[]) ∧
      ∃ s2 l v', HvI s.size 0 1000 s2 ∧ 0 < l.length ∧ TfAt s2 l C P v' w' ∧ Kept (C :: P :: own v) w w' ∧ (v'.ownBlock = v.ownBlock ∨ ∃ g, v'.ownBlock = some g ∧ w.heap.size ≤ g) := by
  obtain ⟨R, hR⟩ : ∃ R : Nat, max 1 (min sample 4294967296) = (R : Int) := ⟨(max 1 (min sample 4294967296)).toNat, by omega⟩
  have hR1 : 1 ≤ R ∧ R ≤ 4294967296 := by omega
  obtain ⟨X, hX⟩ : ∃ X, min x 1125899906842624 = X := ⟨_, rfl⟩
  have hXb : X < 18446744073709551616 := by omega
  have hI := M.tfInit_bd s.size R hs.b0.2
  have hb0 := hs.b0
  have hok : ({ s with rtt := R, rate := M.tfInit s.size R, doubled := 1000 } : TfS).ok := ⟨hs.b0, hI, by simp only; omega, hs.b3, by simp only; omega⟩
  have hlim : ∀ pp, ∃ LIM l', LIM < 18446744073709551616 ∧ 0 < l'.length ∧ LimIs { s with rtt := R, rate := M.tfInit s.size R, doubled := 1000 } [(0, 18446744073709551615)] C P v 1000 X pp false LIM l' := by
    intro pp
    by_cases h5 : 500 ≤ R
    · refine ⟨_, _, mulT_ltK 2 _, ?_, fun W hW => tfLimit_upd _ hok [(0, 18446744073709551615)] (by decide) (by decide) (by simp) 1000 X pp hXb (by simp; decide) (fun i hi => by
        have : i = 0 := by simpa using hi
        subst this
        simp only [List.getD_cons_zero]
        omega) C P v W hW⟩
      simp
    · refine ⟨_, _, mulT_ltK 2 _, ?_, fun W hW => tfLimit_drop _ hok (0, 18446744073709551615) 1000 X pp hXb (by decide) (by simp only; omega) C P v W hW⟩
      simp
  have hvi : ∀ s2 : TfS, s2.ok → s2.size = s.size → s2.rtt = (R : Int) → s.size ≤ s2.rate → HvI s.size 0 1000 (s2.run (M.tfDue (M.tfWait s2) 1000)) := fun s2 h1 h2 h3 h4 =>
    ⟨⟨h1.b0, h1.b1, h1.b2, h1.b3, h1.b4⟩, h2, by show 1 ≤ s2.rtt; omega, h4, by omega, by omega, .inl ⟨rfl, rfl, by show s2.rate * 2 ^ 0 < _; rw [Nat.pow_zero, Nat.mul_one]; exact h1.b1⟩⟩
  by_cases hp0 : p = 0
  · subst hp0
    obtain ⟨LIM, l', h1, h2, h3⟩ := hlim 0
    refine (show Calls Tryz.prog 38 #[.pointer (some ⟨C, 0, none⟩), .int .i64 1000, .int .i64 sample, .int .u64 x, .int .u64 0, .bool false] w _ from tfHear_first_none s hs 1000 sample x hx 1000 (by omega) R hR hr X hX (by omega) false _ l' LIM h1 C P v w h h3).mono ?_
    rintro e w' ⟨rfl, v', k1, k2, k3⟩
    refine ⟨rfl, _, l', v', ?_, h2, k1, k2, k3⟩
    refine hvi ({ ({ s with rtt := R, rate := M.tfInit s.size R, doubled := 1000 } : TfS) with loss := 0, rate := max (M.tfInit s.size R) s.size } : TfS) ?_ rfl rfl ?_
    · exact ⟨hs.b0, by simp only; omega, by simp only; omega, by simp only; omega, by simp only; omega⟩
    · simp only; omega
  · obtain ⟨pp, hpp⟩ : ∃ pp, min p 4294967296 = pp := ⟨_, rfl⟩
    obtain ⟨LIM, l', h1, h2, h3⟩ := hlim pp
    refine (tfHear_first_p s hs 1000 sample x hx 1000 (by omega) R hR hr X hX p pp hp hpp (by omega) false _ l' LIM h1 C P v w h h3).mono ?_
    rintro e w' ⟨rfl, v', k1, k2, k3⟩
    refine ⟨rfl, _, l', v', ?_, h2, k1, k2, k3⟩
    refine hvi ({ ({ s with rtt := R, rate := M.tfInit s.size R, doubled := 1000 } : TfS) with loss := pp, rate := max (min (M.eqnRate s.size R pp) LIM) s.size } : TfS) ?_ rfl rfl ?_
    all_goals generalize M.eqnRate s.size R pp = G
    · exact ⟨hs.b0, by simp only; omega, by simp only; omega, by simp only; omega, by simp only; omega⟩
    · simp only; omega
end Go.Proofs.YtljlgbjbhokhlaaGreatDoor

namespace Go.Proofs.YtljlgbjbhokhlaaGreatDoor
open Go.ChangeShapes Go.WideShapes Go.ChangeAt Go.RowKit
set_option linter.unusedVariables false
set_option linter.unusedSimpArgs false

theorem tabW_laid {W : World} {l : List (String × DataW Unit)} (h : laidMet Tryz.prog l W) (hm : ("muleteer/ival.weights", (Rows.laid_muleteer_ival_weights : DataW Unit)) ∈ l) : TabW W := by
  obtain ⟨ps, h, _⟩ := h
  obtain ⟨g, t, cs, fuel, p, hg, ht, hvar, hd⟩ := Lib.LaidVars_reads h _ _ hm
  rw [show (Rows.laid_muleteer_ival_weights : DataW Unit) = Lib.tabData .u64 [5, 5, 5, 5, 4, 3, 2, 1] by kernel_rfl] at hd
  have e : Tryz.prog.globalNamed "muleteer/ival.weights" = some 2 := by kernel_rfl
  obtain rfl := Option.some.inj (e.symm.trans hg)
  obtain rfl : t = 227 := (Option.some.inj ((show (Tryz.prog.globals[2]?).map (·.type) = some 227 by kernel_rfl).symm.trans ht)).symm
  have hc := Lib.cells_of_tab Tryz.underlying227 Tryz.underlying22 (by kernel_rfl) (by kernel_rfl) hd
  obtain ⟨cl⟩ := cs
  simp only at hc
  subst hc
  intro i hi
  have h1 := World.var?_cell e hvar i
  rw [h1]
  obtain rfl | rfl | rfl | rfl | rfl | rfl | rfl | rfl : i = 0 ∨ i = 1 ∨ i = 2 ∨ i = 3 ∨ i = 4 ∨ i = 5 ∨ i = 6 ∨ i = 7 := by omega
  all_goals rfl
end Go.Proofs.YtljlgbjbhokhlaaGreatDoor

namespace Go.Proofs.YtljlgbjbhokhlaaGreatDoor
open Go.ChangeShapes Go.WideShapes Go.ChangeAt Go.RowKit
set_option linter.unusedVariables false
set_option linter.unusedSimpArgs false

theorem kb3 {w W W' : World} {C P : Nat} {v : Value} (h : Below w.heap.size w W) (k : Kept (C :: P :: own v) W W') (hC : w.heap.size ≤ C) (hP : w.heap.size ≤ P) (hv : ∀ g, v.ownBlock = some g → w.heap.size ≤ g) : Below w.heap.size w W' := h.trans (k.below h.size (by
  intro x hx
  rcases List.mem_cons.1 hx with e | hx
  · omega
  · rcases List.mem_cons.1 hx with e | hx
    · omega
    · unfold own at hx
      cases hv2 : v.ownBlock with
      | none => rw [hv2] at hx; cases hx
      | some g => rw [hv2] at hx; simp at hx; have := hv g hv2; omega))
theorem ownUp {w W : World} {v v' : Value} (hb : w.heap.size ≤ W.heap.size) (hv : ∀ g, v.ownBlock = some g → w.heap.size ≤ g) (h : v'.ownBlock = v.ownBlock ∨ ∃ g, v'.ownBlock = some g ∧ W.heap.size ≤ g) : ∀ g, v'.ownBlock = some g → w.heap.size ≤ g := by
  intro g hg
  rcases h with h | ⟨q, h, h2⟩
  · exact hv g (by rw [← h]; exact hg)
  · rw [h] at hg; cases hg; omega
/-- A rate that lies above all that was there. -/
structure TfUp (w : World) (C P : Nat) (v : Value) (W : World) : Prop where
  b : Below w.heap.size w W
  c : w.heap.size ≤ C
  p : w.heap.size ≤ P
  v : ∀ g, v.ownBlock = some g → w.heap.size ≤ g
theorem TfUp.next {w : World} {C P : Nat} {v v' : Value} {W W' : World} (h : TfUp w C P v W) (k : Kept (C :: P :: own v) W W') (hv : v'.ownBlock = v.ownBlock ∨ ∃ g, v'.ownBlock = some g ∧ W.heap.size ≤ g) : TfUp w C P v' W' := ⟨kb3 h.b k h.c h.p h.v, h.c, h.p, ownUp h.b.size h.v hv⟩
theorem TfUp.below {w : World} {C P : Nat} {v : Value} {W W' : World} (h : TfUp w C P v W) (k : Below W.heap.size W W') : TfUp w C P v W' := ⟨bel_trans h.b k, h.c, h.p, h.v⟩
theorem mod_atL (x m : Int) (hm : 0 < m) : ∃ a, x.tmod m = a ∧ -m < a ∧ a < m ∧ ∃ j : Nat, (a + m).tmod m = (j : Int) ∧ (j : Int) < m := mod_at x m hm
set_option maxHeartbeats 16000000 in
set_option maxRecDepth 100000 in
theorem tfrcLimited_walk (size r : Int) (x y p : Nat) (s1 : -9223372036854775808 ≤ size) (s2 : size ≤ 9223372036854775807) (r1 : -9223372036854775808 ≤ r) (r2 : r ≤ 9223372036854775807) (hx : x < 18446744073709551616) (hy : y < 18446744073709551616) (hp : p < 18446744073709551616) (w : World) (hT : TabW w) :
    Calls Tryz.prog 15 #[.int .i64 size, .int .i64 r, .int .u64 x, .int .u64 y, .int .u64 p] w fun e w' => e = .returned (.bool true) ∧ Below w.heap.size w w' := by
  have HBG : Hid (∀ W, Below w.heap.size w W → Calls Tryz.prog 18 #[] W fun e w' => e = .returned (.bool true) ∧ Below W.heap.size W w') := Lib.hid (fun W hb => begun8_any W (hT.below hb))
  clear hT
  obtain ⟨a, ha, a1, a2, J, hJ, hJ3⟩ := mod_atL size 1400 (by decide)
  obtain ⟨S, hS⟩ : ∃ S : Nat, 1 + (J : Int) = (S : Int) := ⟨1 + J, by omega⟩
  have hS1 : 1 ≤ S := by omega
  have hS2 : S ≤ 1400 := by omega
  obtain ⟨m1, hm1⟩ : ∃ m, min r 1048576 = m := ⟨_, rfl⟩
  obtain ⟨m2, hm2⟩ : ∃ m, max 0 m1 = m := ⟨_, rfl⟩
  obtain ⟨u1, u2, u3, u4, u5⟩ := mni r 1048576 m1 hm1
  obtain ⟨v1, v2, v3, v4, v5⟩ := mxi 0 m1 m2 hm2
  obtain ⟨R, hR⟩ : ∃ R : Nat, 1000 + m2 = (R : Int) := ⟨(1000 + m2).toNat, by omega⟩
  have hR1 : 1000 ≤ R := by omega
  have hR2 : R ≤ 1049576 := by omega
  obtain ⟨X, hX⟩ : ∃ X, 1 + x % 1099511627776 = X := ⟨_, rfl⟩
  obtain ⟨Y, hY⟩ : ∃ Y, y % 1099511627776 = Y := ⟨_, rfl⟩
  obtain ⟨Pp, hP⟩ : ∃ P, 1 + p % 2147483648 = P := ⟨_, rfl⟩
  have hX1 : (1 : Int) + ((x : Int) % 1099511627776) = (X : Int) := by omega
  have hX2 : (x : Int).tmod 1099511627776 = (x : Int) % 1099511627776 := Int.tmod_eq_emod_of_nonneg (by omega)
  have hY1 : (y : Int) % 1099511627776 = (Y : Int) := by omega
  have hY2 : (y : Int).tmod 1099511627776 = (Y : Int) := by rw [Int.tmod_eq_emod_of_nonneg (by omega)]; exact hY1
  have hP1 : (1 : Int) + ((p : Int) % 2147483648) = (Pp : Int) := by omega
  have hP2 : (p : Int).tmod 2147483648 = (p : Int) % 2147483648 := Int.tmod_eq_emod_of_nonneg (by omega)
  have bX : 1 ≤ X ∧ X ≤ 1099511627776 := by omega
  have bY : Y ≤ 1099511627776 := by omega
  have bP : 1 ≤ Pp ∧ Pp ≤ 2147483648 := by omega
  obtain ⟨bX1, bX2⟩ := bX
  obtain ⟨bP1, bP2⟩ := bP
  have e1 : IntKind.u64.wrap ((x : Int) % 1099511627776) = (x : Int) % 1099511627776 := IntWalk.u64_in _ (by omega)
  have e2 : IntKind.u64.wrap (Y : Int) = (Y : Int) := IntWalk.u64_in _ (by omega)
  have e3 : IntKind.u64.wrap ((p : Int) % 2147483648) = (p : Int) % 2147483648 := IntWalk.u64_in _ (by omega)
  have e4 : IntKind.u64.wrap (X : Int) = (X : Int) := IntWalk.u64_in _ (by omega)
  have e5 : IntKind.u64.wrap (Pp : Int) = (Pp : Int) := IntWalk.u64_in _ (by omega)
  have HNW := Lib.hid (fun W => tfNew_any S hS1 hS2 W)
  have HH1 := Lib.hid (fun (C P : Nat) (v : Value) W (h : TfAt ⟨S, 64 * S, 0, 0, 0, false, 0, false⟩ [(0, 18446744073709551615)] C P v W) => (show Calls Tryz.prog 38 #[.pointer (some ⟨C, 0, none⟩), .int .i64 0, .int .i64 R, .int .u64 1, .int .u64 0, .bool false] W _ from tfJ_first S R hS1 hS2 (by omega) (by omega) 1 (by omega) C P v W h))
  obtain ⟨t0, ht0⟩ : ∃ t0 : TfS, (⟨S, 64 * S, 0, 0, 0, false, 0, false⟩ : TfS) = t0 := ⟨_, rfl⟩
  rw [ht0] at HNW HH1
  clear ht0
  obtain ⟨F1, hF1⟩ : ∃ F, max (M.tfInit S R) S = F := ⟨_, rfl⟩
  rw [hF1] at HH1
  -- the second one
  obtain ⟨N2, hN2⟩ : ∃ N : Int, 3 * (R : Int) + 1 = N := ⟨_, rfl⟩
  obtain ⟨T1, hT1⟩ : ∃ T, max X 1 = T := ⟨_, rfl⟩
  have hmx1 : M.maxNT [(0, 18446744073709551615), (0, 1)] X = T1 := by unfold M.maxNT; simp; exact hT1
  have HH2 := Lib.hid (fun (s : TfS) (hs : TfP S R 0 0 F1 s) (C P : Nat) (v : Value) W (h : TfAt s [(0, 18446744073709551615), (0, 1)] C P v W) => tfJ_dbl S R 0 F1 (by omega) s hs N2 (by omega) (by omega) X (by omega) X (by omega) [(0, 18446744073709551615), (0, 1)] (by simp) (by simp) (by simp) C P v W h)
  rw [hmx1] at HH2
  obtain ⟨F2, hF2⟩ : ∃ F, max (max (min (M.mulT 2 F1) (M.mulT 2 T1)) (M.tfInit S R)) S = F := ⟨_, rfl⟩
  rw [hF2] at HH2
  have HTP1 := Lib.hid (fun (s : TfS) (hs : TfP S R 0 N2 F2 s) (C P : Nat) (v : Value) W (h : TfAt s [(N2, T1)] C P v W) => tfTop_any s hs.ok [(N2, T1)] (by simp) (by simp) C P v W h)
  rw [maxPr_one] at HTP1
  -- the third one
  obtain ⟨N3, hN3⟩ : ∃ N : Int, 6 * (R : Int) + 2 = N := ⟨_, rfl⟩
  obtain ⟨h1, hh1⟩ : ∃ h, T1 / 2 = h := ⟨_, rfl⟩
  obtain ⟨y1, hy1⟩ : ∃ h, Y * 17 / 20 = h := ⟨_, rfl⟩
  obtain ⟨LM, hLM⟩ : ∃ h, max h1 y1 = h := ⟨_, rfl⟩
  have hT1b : T1 ≤ 1099511627776 := by omega
  have hmx2 : M.maxNT ([(N2, T1)].map M.halfPr) y1 = LM := by
    have e : M.halfPr (N2, T1) = (N2, h1) := by unfold M.halfPr; rw [if_neg (by simp only; omega), ← hh1]
    rw [List.map_cons, List.map_nil, e]
    unfold M.maxNT
    simp only [List.foldl_cons, List.foldl_nil]
    rw [if_neg (by omega), ← hLM, Nat.max_comm]
  have HH3 := Lib.hid (fun (s : TfS) (hs : TfP S R 0 N2 F2 s) (C P : Nat) (v : Value) W (h : TfAt s [(N2, T1)] C P v W) => tfJ_p S R N2 F2 (by omega) s hs N3 (by omega) Y (by omega) y1 hy1 Pp (by omega) (by omega) [(N2, T1)] (by simp) (by simp) (by simp; omega) C P v W h)
  rw [hmx2] at HH3
  obtain ⟨G, hG⟩ : ∃ G, M.eqnRate S R Pp = G := ⟨_, rfl⟩
  obtain ⟨F3, hF3⟩ : ∃ F, max (min G LM) S = F := ⟨_, rfl⟩
  rw [hG, hF3] at HH3
  have HTP2 := Lib.hid (fun (s : TfS) (hs : TfP S R Pp N2 F3 s) (C P : Nat) (v : Value) W (h : TfAt s [(N3, LM)] C P v W) => tfTop_any s hs.ok [(N3, LM)] (by simp) (by simp) C P v W h)
  rw [maxPr_one] at HTP2
  have HRA := Lib.hid (fun (s : TfS) (hs : TfP S R Pp N2 F3 s) (l : List Pr) (C P : Nat) (v : Value) W (h : TfAt s l C P v W) => (show Calls Tryz.prog 39 #[.pointer (some ⟨C, 0, none⟩)] W fun e w' => e = .returned (.int .u64 F3) ∧ W = w' from by
    have h1 := tfRate_any s hs.ok l C P v W h
    rw [hs.rate] at h1
    exact h1))
  have HLO := Lib.hid (fun (s : TfS) (hs : TfP S R Pp N2 F3 s) (l : List Pr) (C P : Nat) (v : Value) W (h : TfAt s l C P v W) => (show Calls Tryz.prog 56 #[.pointer (some ⟨C, 0, none⟩)] W fun e w' => e = .returned (.int .u64 Pp) ∧ W = w' from by
    have h1 := tfLoss_any s hs.ok l C P v W h
    rw [hs.loss] at h1
    exact h1))
  have HRF : Hid (∀ W, Calls Tryz.prog 55 #[.int .u64 S, .int .u64 R, .int .u64 Pp] W fun e w' => e = .returned (.int .u64 G) ∧ ∃ k, w' = W.drewN k) := Lib.hid (fun W => by
    have h1 := ref8Rate_any S R Pp (by omega) (by omega) (by omega) W
    rw [hG] at h1
    exact h1)
  obtain ⟨t1, t2, t3, _, _, _⟩ := mxs X 1 T1 hT1
  have t1' : (if (X : Int) < 1 then 1 else (X : Int)) = (T1 : Int) := t1
  have t2' : (if X < 1 then 1 else (X : Int)) = (T1 : Int) := t2
  have t3' : max (X : Int) 1 = (T1 : Int) := t3
  obtain ⟨l1, l2, l3, _, _, _⟩ := mxs h1 y1 LM hLM
  obtain ⟨K1, hK1⟩ : ∃ K, min LM G = K := ⟨_, rfl⟩
  have hF3' : max S K1 = F3 := by omega
  obtain ⟨k1, k2, k3, _, _, _⟩ := mns LM G K1 hK1
  obtain ⟨f1, f2, f3, _, _, _⟩ := mxs S K1 F3 hF3'
  have hSi : (S : Int) ≤ 1400 := by omega
  have hRi : (R : Int) ≤ 1049576 := by omega
  have hYi : (Y : Int) ≤ 1099511627776 := by omega
  have hTi : (T1 : Int) ≤ 1099511627776 := by omega
  have e6 : IntKind.u64.wrap (R : Int) = (R : Int) := IntWalk.u64_in _ (by omega)
  have e7 : IntKind.u64.wrap (S : Int) = (S : Int) := IntWalk.u64_in _ (by omega)
  have i1 : (T1 : Int) / 2 = (h1 : Int) := by omega
  have i2 : (T1 : Int).tdiv 2 = (h1 : Int) := by rw [Int.tdiv_eq_ediv_of_nonneg (by omega)]; exact i1
  have i3 : IntKind.u64.wrap ((Y : Int) * 17) = (Y : Int) * 17 := IntWalk.u64_in _ (by omega)
  have i4 : (Y : Int) * 17 / 20 = (y1 : Int) := by omega
  have i5 : ((Y : Int) * 17).tdiv 20 = (y1 : Int) := by rw [Int.tdiv_eq_ediv_of_nonneg (by omega)]; exact i4
  have i6 : IntKind.u64.wrap (y1 : Int) = (y1 : Int) := IntWalk.u64_in _ (by omega)
  have i7 : IntKind.i64.wrap (3 * (R : Int)) = 3 * (R : Int) := IntWalk.i64_in _ (by omega)
  have i8 : IntKind.i64.wrap (6 * (R : Int)) = 6 * (R : Int) := IntWalk.i64_in _ (by omega)
  clear hmx1 hmx2 hF1 hF2 hF3 hF3' hG hK1 hLM hT1 hh1 hy1 hm1 hm2 hX hY hP u3 u4 u5 v3 v4 v5 hT1b
  go_enter Tryz.func15, Tryz.ntmps15
  go_upto_region 4 with (go_at_call 18; refine (HBG.out _ (Below.refl _ _)).mono ?_; rintro e w0 ⟨rfl, hb0⟩)
  go_upto_region 5 with fail
  clear ha hJ e1 e2 e3 e4 e5 hX1 hX2 hY1 hY2 hP1 hP2 u1 u2 v1 v2 hS hR
  go_upto_region 7 with (first
    | (go_at_call 36; (with_reducible refine (HNW.out _).mono ?_); rintro e w1 ⟨C, P, v, rfl, htf, hc1, hp1, hv1, hb1⟩)
    | (go_at_call 38; (with_reducible refine (HH1.out _ _ _ _ htf).mono ?_); rintro e w2 ⟨rfl, s2, v2, hp2, ht2, hk2, hv2⟩))
  have hup1 : TfUp w C P v w1 := ⟨bel_trans hb0 hb1, Nat.le_trans hb0.size hc1, Nat.le_trans hb0.size hp1, fun g hg => Nat.le_trans hb0.size (hv1 g hg)⟩
  have HUP2 : Hid (TfUp w C P v2 w2) := Lib.hid (hup1.next hk2 hv2)
  clear htf hc1 hp1 hv1 hb0 hb1 hk2 hv2 hup1 HH1 HNW HBG
  go_upto_region 8 with (go_at_call 38; (with_reducible refine (HH2.out s2 hp2 _ _ _ _ ht2).mono ?_); rintro e w3 ⟨rfl, s3, v3, hp3, ht3, hk3, hv3⟩)
  have HUP3 : Hid (TfUp w C P v3 w3) := Lib.hid (HUP2.out.next hk3 hv3)
  clear hp2 ht2 hk3 hv3 HH2 HUP2
  go_upto_region 11 with (go_at_call 54; (with_reducible refine (HTP1.out s3 hp3 _ _ _ _ ht3).mono ?_); rintro e w4 ⟨rfl, hb4⟩)
  have ht4 := ht3.below hb4
  have HUP4 : Hid (TfUp w C P v3 w4) := Lib.hid (HUP3.out.below hb4)
  clear ht3 hb4 HTP1 HUP3 t1 t2 t3 t1' t2' t3'
  go_upto_region 12 with (go_at_call 38; (with_reducible refine (HH3.out s3 hp3 _ _ _ _ ht4).mono ?_); rintro e w5 ⟨rfl, s5, v5, hp5, ht5, hk5, hv5⟩)
  have HUP5 : Hid (TfUp w C P v5 w5) := Lib.hid (HUP4.out.next hk5 hv5)
  clear hp3 ht4 hk5 hv5 HH3 HUP4
  go_upto_region 13 with fail
  have HT5 := Lib.hid ht5
  have HP5 := Lib.hid hp5
  clear ht5 hp5 i1 i2 i3 i4 i5 i6 i7 i8 l1 l2 l3 hN2 hN3
  have HTPW := Lib.hid (HTP2.out s5 HP5.out _ _ _ _ HT5.out)
  have HRW : Hid (∀ W, Below w5.heap.size w5 W → Calls Tryz.prog 39 #[.pointer (some ⟨C, 0, none⟩)] W fun e w' => e = .returned (.int .u64 F3) ∧ W = w') := Lib.hid (fun W hW => HRA.out s5 HP5.out _ _ _ _ W (HT5.out.below hW))
  have HLW : Hid (∀ W n, Below w5.heap.size w5 W → Calls Tryz.prog 56 #[.pointer (some ⟨C, 0, none⟩)] (W.drewN n) fun e w' => e = .returned (.int .u64 Pp) ∧ W.drewN n = w') := Lib.hid (fun W n hW => HLO.out s5 HP5.out _ _ _ _ _ ((HT5.out.below hW).drewN n))
  clear HTP2 HRA HLO
  go_wp2_with (first
    | (go_at_call 54; (with_reducible refine HTPW.out.mono ?_); rintro e w6 ⟨rfl, hb6⟩)
    | (go_at_call 39; (with_reducible refine (HRW.out _ hb6).mono ?_); rintro e w7 ⟨rfl, rfl⟩)
    | (go_at_call 55; (with_reducible refine (HRF.out _).mono ?_); rintro e w8 ⟨rfl, n8, rfl⟩)
    | (go_at_call 56; (with_reducible refine (HLW.out _ _ hb6).mono ?_); rintro e w9 ⟨rfl, rfl⟩))
  go_ret
  exact ⟨rfl, bel_trans (bel_trans HUP5.out.b hb6) (bel_drewN _ _)⟩
end Go.Proofs.YtljlgbjbhokhlaaGreatDoor

namespace Go.Proofs.YtljlgbjbhokhlaaGreatDoor
open Go.ChangeShapes Go.WideShapes Go.ChangeAt Go.RowKit
set_option linter.unusedVariables false
set_option linter.unusedSimpArgs false

set_option maxHeartbeats 16000000 in
set_option maxRecDepth 100000 in
theorem tfrcHalves_walk (size sample : Int) (x p : Nat) (s1 : -9223372036854775808 ≤ size) (s2 : size ≤ 9223372036854775807) (m1 : -9223372036854775808 ≤ sample) (m2 : sample ≤ 9223372036854775807) (hx : x < 18446744073709551616) (hp : p < 18446744073709551616) (w : World) (hT : TabW w) :
    Calls Tryz.prog 7 #[.int .i64 size, .int .i64 sample, .int .u64 x, .int .u64 p] w fun e w' => e = .returned (.bool true) ∧ Below w.heap.size w w' := by
  have HBG : Hid (∀ W, Below w.heap.size w W → Calls Tryz.prog 18 #[] W fun e w' => e = .returned (.bool true) ∧ Below W.heap.size W w') := Lib.hid (fun W hb => begun8_any W (hT.below hb))
  clear hT
  obtain ⟨a, ha, a1, a2, J, hJ, hJ3⟩ := mod_atL size 1400 (by decide)
  obtain ⟨S, hS⟩ : ∃ S : Nat, 1 + (J : Int) = (S : Int) := ⟨1 + J, by omega⟩
  have hS1 : 1 ≤ S := by omega
  have hS2 : S ≤ 1400 := by omega
  have HNW := Lib.hid (fun W => tfNew_any S hS1 hS2 W)
  obtain ⟨t0, ht0⟩ : ∃ t0 : TfS, (⟨S, 64 * S, 0, 0, 0, false, 0, false⟩ : TfS) = t0 := ⟨_, rfl⟩
  have hok0 : t0.ok := by rw [← ht0]; exact ⟨⟨hS1, hS2⟩, by simp only; omega, by simp only; omega, by simp only; omega, by simp only; omega⟩
  have HST := Lib.hid (fun (l : List Pr) (C P : Nat) (v : Value) W (h : TfAt t0 l C P v W) => tfStart_first t0 hok0 (by rw [← ht0]) 0 (by decide) l C P v W h)
  obtain ⟨t1, ht1⟩ : ∃ t1 : TfS, (({ t0 with started := true } : TfS).run (M.tfDue 2000000 0)) = t1 := ⟨_, rfl⟩
  have hok1 : t1.ok := by rw [← ht1, ← ht0]; exact ⟨⟨hS1, hS2⟩, by show 64 * S < _; omega, (by decide : (0 : Int) ≤ 0 ∧ (0 : Int) ≤ 4294967296), (by decide : 0 ≤ 4294967296), (by decide : (0 : Int) ≤ 0 ∧ (0 : Int) ≤ 4611686018427387904)⟩
  have ht1s : t1.size = S := by rw [← ht1, ← ht0]; rfl
  have ht1r : t1.rtt = 0 := by rw [← ht1, ← ht0]; rfl
  have HHE := Lib.hid (fun (C P : Nat) (v : Value) W (h : TfAt t1 [(0, 18446744073709551615)] C P v W) => tfHear_start t1 hok1 ht1r sample x p hx hp C P v W h)
  rw [ht1s] at HHE
  rw [ht0] at HNW
  rw [ht1] at HST
  clear hok0 hok1 ht0 ht1 ht1s ht1r
  go_enter Tryz.func7, Tryz.ntmps7
  go_upto_region 8 with (first
    | (go_at_call 18; refine (HBG.out _ (Below.refl _ _)).mono ?_; rintro e w0 ⟨rfl, hb0⟩)
    | (go_at_call 36; (with_reducible refine (HNW.out _).mono ?_); rintro e w1 ⟨C, P, v, rfl, htf, hc1, hp1, hv1, hb1⟩)
    | (go_at_call 37; (with_reducible refine (HST.out _ _ _ _ _ htf).mono ?_); rintro e w2 ⟨rfl, ht2, hk2⟩)
    | (go_at_call 38; (with_reducible refine (HHE.out _ _ _ _ ht2).mono ?_); rintro e w3 ⟨rfl, s, l, v3, hI3, hl3, ht3, hk3, hv3⟩))
  have hC0 : w.heap.size ≤ C := Nat.le_trans hb0.size hc1
  have hP0 : w.heap.size ≤ P := Nat.le_trans hb0.size hp1
  have hV0 : ∀ g, v.ownBlock = some g → w.heap.size ≤ g := fun g hg => Nat.le_trans hb0.size (hv1 g hg)
  have hB2 : Below w.heap.size w w2 := (bel_trans hb0 hb1).trans (hk2.below (bel_trans hb0 hb1).size (by intro z hz; simp at hz; omega))
  have HB3 : Hid (Below w.heap.size w w3) := Lib.hid (kb3 hB2 hk3 hC0 hP0 hV0)
  have HV3 : Hid (∀ g, v3.ownBlock = some g → w.heap.size ≤ g) := Lib.hid (ownUp hB2.size hV0 hv3)
  have HI3 : Hid (HvI S 0 1000 s ∧ 0 < l.length ∧ TfAt s l C P v3 w3) := Lib.hid ⟨hI3, hl3, ht3⟩
  have HNE : Hid (w.heap.size ≤ C ∧ w.heap.size ≤ P) := Lib.hid ⟨hC0, hP0⟩
  clear htf hc1 hp1 hv1 hb0 hb1 ht2 hk2 hI3 hl3 ht3 hk3 hv3 hC0 hP0 hV0 hB2 HST HHE HNW HBG
  go_wp2
  go_loopw [11, 12] (fun nv iv wr => ∃ (i : Nat) (now : Int) (s : TfS) (l : List Pr) (v : Value), iv = .int .i64 (i : Int) ∧ nv = .int .i64 now ∧ i ≤ 70 ∧ Hid (HvI S i now s ∧ 0 < l.length ∧ TfAt s l C P v wr) ∧ Hid (∀ g, v.ownBlock = some g → w.heap.size ≤ g) ∧ Hid (Below w.heap.size w wr)) (fun _ iv _ => 70 - (intOf iv).toNat)
  case atStart => exact ⟨0, 1000, s, l, v3, rfl, rfl, by omega, HI3, HV3, HB3⟩
  case round =>
    clear HI3 HV3 HB3
    obtain ⟨i, now, s', l', v', rfl, rfl, hi, hI, hV, hb⟩ := hrel
    obtain ⟨hH, hl0, hat⟩ := hI.out
    have hok := hH.ok
    have HRA : Hid (∀ W, TfAt s' l' C P v' W → Calls Tryz.prog 39 #[.pointer (some ⟨C, 0, none⟩)] W fun e w' => e = .returned (.int .u64 s'.rate) ∧ W = w') := Lib.hid (fun W hW => tfRate_any s' hok l' C P v' W hW)
    have hSi : (S : Int) ≤ 1400 := by omega
    cases hr : s'.runs with
    | false =>
      have HDU : Hid (∀ W, TfAt s' l' C P v' W → Calls Tryz.prog 40 #[.pointer (some ⟨C, 0, none⟩)] W fun e w' => e = .returned (.tuple #[.int .i64 s'.due, .bool false]) ∧ ∃ m, w' = W.drewN m) := Lib.hid (fun W hW => by
        have h1 := tfDue_any s' hok l' C P v' W hW
        rw [hr] at h1
        exact h1)
      have HFI : Hid (∀ W, TfAt s' l' C P v' W → Calls Tryz.prog 41 #[.pointer (some ⟨C, 0, none⟩), .int .i64 2305843009213693952] W fun e w' => e = .returned (.bool false) ∧ ∃ m, w' = W.drewN m) := Lib.hid (fun W hW => tfFire_no s' hok _ (.inl hr) l' C P v' W hW)
      have hrs : s'.rate = S := by
        rcases hH.st with ⟨h1, _⟩ | ⟨_, h2⟩
        · rw [h1] at hr; cases hr
        · exact h2
      rw [hrs] at HRA
      have HAT := Lib.hid hat
      clear hH hl0 hat hok hI hV hr hrs
      generalize s'.due = due at *
      obtain ⟨wR, rfl⟩ : ∃ wR : World, wR = wr := ⟨_, rfl⟩
      by_cases hi70 : i < 70
      · have hd : decide ((i : Int) < 70) = true := decide_eq_true (by omega)
        go_upto_region 13 with (go_at_call 39; (with_reducible refine (HRA.out wR HAT.out).mono ?_); rintro e w1 ⟨rfl, rfl⟩)
        go_upto_region 14 with (go_at_call 40; (with_reducible refine (HDU.out wR HAT.out).mono ?_); rintro e w1 ⟨rfl, m1, rfl⟩)
        have H2 : Hid (TfAt s' l' C P v' (wR.drewN m1)) := Lib.hid (HAT.out.drewN m1)
        have HB2 : Hid (Below w.heap.size w (wR.drewN m1)) := Lib.hid (bel_trans hb.out (bel_drewN _ _))
        generalize wR.drewN m1 = w2 at *
        go_upto_region 21 with (go_at_call 40; (with_reducible refine (HDU.out w2 H2.out).mono ?_); rintro e w1 ⟨rfl, m2, rfl⟩)
        have H3 : Hid (TfAt s' l' C P v' (w2.drewN m2)) := Lib.hid (H2.out.drewN m2)
        have HB3 : Hid (Below w.heap.size w (w2.drewN m2)) := Lib.hid (bel_trans HB2.out (bel_drewN _ _))
        generalize w2.drewN m2 = w3 at *
        go_wp2_with (first
          | (go_at_call 39; (with_reducible refine (HRA.out w3 H3.out).mono ?_); rintro e w4 ⟨rfl, rfl⟩)
          | (go_at_call 41; (with_reducible refine (HFI.out w3 H3.out).mono ?_); rintro e w4 ⟨rfl, m3, rfl⟩))
        go_ret
        exact ⟨rfl, bel_trans HB3.out (bel_drewN _ _)⟩
      · have hd : decide ((i : Int) < 70) = false := decide_eq_false (by omega)
        go_upto_region 21 with (go_at_call 40; (with_reducible refine (HDU.out wR HAT.out).mono ?_); rintro e w1 ⟨rfl, m2, rfl⟩)
        have H3 : Hid (TfAt s' l' C P v' (wR.drewN m2)) := Lib.hid (HAT.out.drewN m2)
        have HB3 : Hid (Below w.heap.size w (wR.drewN m2)) := Lib.hid (bel_trans hb.out (bel_drewN _ _))
        generalize wR.drewN m2 = w3 at *
        go_wp2_with (first
          | (go_at_call 39; (with_reducible refine (HRA.out w3 H3.out).mono ?_); rintro e w4 ⟨rfl, rfl⟩)
          | (go_at_call 41; (with_reducible refine (HFI.out w3 H3.out).mono ?_); rintro e w4 ⟨rfl, m3, rfl⟩))
        go_ret
        exact ⟨rfl, bel_trans HB3.out (bel_drewN _ _)⟩
    | true =>
      have hlow := hH.low hr
      obtain ⟨d1, d2, d3⟩ := hH.due hi hr
      have n1 := hH.n1
      have n2 := hH.n2
      have hsz := hH.sz
      have hrg := hH.rg
      have hrb := hok.b1
      have HNX := Lib.hid (hH.next hr)
      have HDU : Hid (∀ W, TfAt s' l' C P v' W → Calls Tryz.prog 40 #[.pointer (some ⟨C, 0, none⟩)] W fun e w' => e = .returned (.tuple #[.int .i64 s'.due, .bool true]) ∧ ∃ m, w' = W.drewN m) := Lib.hid (fun W hW => by
        have h1 := tfDue_any s' hok l' C P v' W hW
        rw [hr] at h1
        exact h1)
      have HF1 : Hid (∀ W, TfAt s' l' C P v' W → Calls Tryz.prog 41 #[.pointer (some ⟨C, 0, none⟩), .int .i64 (s'.due - 1)] W fun e w' => e = .returned (.bool false) ∧ ∃ m, w' = W.drewN m) := Lib.hid (fun W hW => tfFire_no s' hok _ (.inr (by omega)) l' C P v' W hW)
      have HF2 := Lib.hid (fun W (hW : TfAt s' l' C P v' W) => tfFire_yes s' hok hH.rt (by omega) hr s'.due (by omega) (Int.le_refl _) _ rfl l' hl0 C P v' W hW)
      have HR2 : Hid (∀ q v W, TfAt (s'.fire s'.due) [q] C P v W → Calls Tryz.prog 39 #[.pointer (some ⟨C, 0, none⟩)] W fun e w' => e = .returned (.int .u64 (max (s'.rate / 2) s'.size : Nat)) ∧ W = w') := Lib.hid (fun q v W hW => by
        have h1 := tfRate_any (s'.fire s'.due) (TfS.fire_ok hok (by omega) _) [q] C P v W hW
        rw [TfS.fire_rate] at h1
        exact h1)
      rw [hsz] at HR2
      obtain ⟨z, hz⟩ : ∃ z, s'.fire s'.due = z := ⟨_, rfl⟩
      rw [hz] at HF2 HR2 HNX
      obtain ⟨q2, hq2⟩ : ∃ q2, (max 0 (min s'.due 4611686018427387904), (s'.half.rate + 1) / 2) = q2 := ⟨_, rfl⟩
      rw [hq2] at HF2
      obtain ⟨h, hh⟩ : ∃ h, s'.rate / 2 = h := ⟨_, rfl⟩
      rw [hh] at HR2
      obtain ⟨M, hM⟩ : ∃ M, max h S = M := ⟨_, rfl⟩
      rw [hM] at HR2
      obtain ⟨x1, x2, x3, _, _, _⟩ := mxs h S M hM
      have hdiv : (s'.rate : Int) / 2 = (h : Int) := by omega
      have HAT := Lib.hid hat
      generalize s'.due = D at *
      have hle : decide (D ≤ now) = false := decide_eq_false (by omega)
      have hD0 : 0 ≤ D := by omega
      have hD1 : D ≤ 4611686018427387904 := by omega
      have hd : decide ((i : Int) < 70) = true := decide_eq_true (by omega)
      clear hH hl0 hat hok hI hr hz hq2 hh hM d1 d2 d3 hsz hrg n1 n2
      obtain ⟨wR, rfl⟩ : ∃ wR : World, wR = wr := ⟨_, rfl⟩
      generalize s'.rate = rt at *
      go_upto_region 13 with (go_at_call 39; (with_reducible refine (HRA.out wR HAT.out).mono ?_); rintro e w1 ⟨rfl, rfl⟩)
      go_upto_region 14 with (go_at_call 40; (with_reducible refine (HDU.out wR HAT.out).mono ?_); rintro e w1 ⟨rfl, m1, rfl⟩)
      have H2 : Hid (TfAt s' l' C P v' (wR.drewN m1)) := Lib.hid (HAT.out.drewN m1)
      have HB2 : Hid (Below w.heap.size w (wR.drewN m1)) := Lib.hid (bel_trans hb.out (bel_drewN _ _))
      generalize wR.drewN m1 = w2 at *
      have HF3 : Hid (∀ n, Calls Tryz.prog 41 #[.pointer (some ⟨C, 0, none⟩), .int .i64 D] (w2.drewN n) _) := Lib.hid (fun n => HF2.out _ (H2.out.drewN n))
      have HF4 := Lib.hid (HF1.out w2 H2.out)
      clear HF1 HF2
      go_upto_region 17 with (first
        | (go_at_call 41; (with_reducible refine HF4.out.mono ?_); rintro e w4 ⟨rfl, m3, rfl⟩; clear HF4)
        | (go_at_call 41; (with_reducible refine (HF3.out _).mono ?_); rintro e w5 ⟨rfl, v5, ht5, hk5, hv5⟩; clear HF3))
      have HB5 : Hid (Below w.heap.size w w5) := Lib.hid (kb3 (bel_trans HB2.out (bel_drewN _ _)) hk5 HNE.out.1 HNE.out.2 hV.out)
      have HV5 : Hid (∀ g, v5.ownBlock = some g → w.heap.size ≤ g) := Lib.hid (ownUp (bel_trans HB2.out (bel_drewN _ _)).size hV.out hv5)
      have H5 := Lib.hid ht5
      clear ht5 hk5 hv5
      go_wp2_with (go_at_call 39; (with_reducible refine (HR2.out _ _ _ H5.out).mono ?_); rintro e w6 ⟨rfl, rfl⟩)
      refine ⟨⟨i + 1, D, z, [q2], v5, by go_num, rfl, by omega, Lib.hid ⟨HNX.out, by simp, H5.out⟩, HV5, HB5⟩, ?_⟩
      simp [intOf]; omega
end Go.Proofs.YtljlgbjbhokhlaaGreatDoor
