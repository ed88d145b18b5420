/-
  Law 8's own heard: what it makes.
  Law 8's own heard: so many that were got.
  Law 8's own heard, of one that is lost: what it makes.
  Law 8's own heard: one that is lost.
-/
import Derived.Test.YtljlgbjbhokhlaaGreatDoorLfW1
import Derived.Test.YtljlgbjbhokhlaaGreatDoorSnM
namespace Go.Proofs.YtljlgbjbhokhlaaGreatDoor
open Go.ChangeShapes Go.WideShapes Go.ChangeAt Go.RowKit
set_option linter.unusedVariables false
set_option linter.unusedSimpArgs false

def wopC (k n : Nat) (r : Int) : Array Value := #[.int .i64 0, .int .i64 k, .int .i64 0, .int .i64 0, .int .i64 0, .int .u64 n, .int .i64 r, .int .i64 0]
def noneH : Array Value := #[.slice none 0 0, .slice none 0 0, .slice none 0 0, .int .i64 0, .int .i64 0]
/-- What heard has made: the word, two answers, three lists, how many each has. -/
structure HrdI (A k n : Nat) (r : Int) (v : Value) (W : World) : Prop where
  o : BlkIs (wopC k n r) 52 A W
  h1 : BlkIs noneH 41 (A + 1) W
  h2 : BlkIs noneH 48 (A + 1 + 1) W
  l : BlkIs #[v, .slice none 0 0, .slice none 0 0] 122 (A + 1 + 1 + 1) W
  q : BlkIs #[.int .i64 k, .int .i64 0, .int .i64 0] 3 (A + 1 + 1 + 1 + 1) W
theorem HrdI.drewN {A k n : Nat} {r : Int} {v : Value} {W : World} (h : HrdI A k n r v W) (j : Nat) : HrdI A k n r v (W.drewN j) := ⟨h.o, h.h1, h.h2, h.l, h.q⟩
theorem HrdI.alloc {A k n : Nat} {r : Int} {v : Value} {W : World} (h : HrdI A k n r v W) (x : Obj) : HrdI A k n r v (W.alloc x) := ⟨h.o.alloc _, h.h1.alloc _, h.h2.alloc _, h.l.alloc _, h.q.alloc _⟩
theorem HrdI.grown {A k n : Nat} {r : Int} {v : Value} {W W' : World} {row : Option Nat} (h : HrdI A k n r v W) (hg : W.grownBy W' row) (hr : ∀ g, row = some g → A + 5 ≤ g) : HrdI A k n r v W' := by
  have ne : ∀ x, x < A + 5 → some x ≠ row := fun x hx e => by have := hr x e.symm; omega
  exact ⟨h.o.grown hg (ne _ (by omega)), h.h1.grown hg (ne _ (by omega)), h.h2.grown hg (ne _ (by omega)), h.l.grown hg (ne _ (by omega)), h.q.grown hg (ne _ (by omega))⟩
theorem HrdI.put {A k n : Nat} {r : Int} {v v' : Value} {W : World} (h : HrdI A k n r v W) : HrdI A k n r v' (W.setCell ⟨A + 1 + 1 + 1, 0, none⟩ v') :=
  ⟨h.o.far (show A ≠ A + 1 + 1 + 1 by omega) _, h.h1.far (show A + 1 ≠ A + 1 + 1 + 1 by omega) _, h.h2.far (show A + 1 + 1 ≠ A + 1 + 1 + 1 by omega) _, h.l.set 0 v', h.q.far (show A + 1 + 1 + 1 + 1 ≠ A + 1 + 1 + 1 by omega) _⟩
theorem hrd_at {cs : Array Value} {T : TypeId} {B : Nat} {w : World} (h : w.heap.size = B) : BlkIs cs T B (w.alloc (.cells cs T)) := by subst h; exact BlkIs.new _ _ _
theorem hrd_new (k n : Nat) (r : Int) (w : World) : ∃ W A, (((((w.alloc (.cells #[.int .i64 0, .int .i64 k, .int .i64 0, .int .i64 0, .int .i64 0, .int .u64 n, .int .i64 r, .int .i64 0] 52)).alloc (.cells #[.slice none 0 0, .slice none 0 0, .slice none 0 0, .int .i64 0, .int .i64 0] 41)).alloc (.cells #[.slice none 0 0, .slice none 0 0, .slice none 0 0, .int .i64 0, .int .i64 0] 48)).alloc (.cells #[.slice none 0 0, .slice none 0 0, .slice none 0 0] 122)).alloc (.cells #[.int .i64 k, .int .i64 0, .int .i64 0] 3)) = W ∧ w.heap.size = A ∧ HrdI A k n r (.slice none 0 0) W ∧ Below A w W ∧ W.heap.size = A + 5 := by
  refine ⟨_, _, rfl, rfl, ⟨?_, ?_, ?_, ?_, ?_⟩, bel_trans (bel_trans (bel_trans (bel_trans (bel_alloc _ _) (bel_alloc _ _)) (bel_alloc _ _)) (bel_alloc _ _)) (bel_alloc _ _), by simp⟩
  · exact (((((hrd_at rfl).alloc _).alloc _).alloc _).alloc _)
  · exact ((((hrd_at (by simp)).alloc _).alloc _).alloc _)
  · exact (((hrd_at (by simp)).alloc _).alloc _)
  · exact ((hrd_at (by simp)).alloc _)
  · exact hrd_at (by simp)
theorem hrd_end {A k n : Nat} {r : Int} {v : Value} {w W : World} (h : HrdI A k n r v W) (hb : Below A w W) (R : Int) : ∃ Wf, ((((((((((W.setCell ⟨A + 1, 0, none⟩ v).setCell ⟨A + 1, 1, none⟩ (.slice none 0 0)).setCell ⟨A + 1, 2, none⟩ (.slice none 0 0)).setCell ⟨A + 1, 3, none⟩ (.int .i64 0)).setCell ⟨A + 1, 4, none⟩ (.int .i64 R)).setCell ⟨A + 1 + 1, 0, none⟩ v).setCell ⟨A + 1 + 1, 1, none⟩ (.slice none 0 0)).setCell ⟨A + 1 + 1, 2, none⟩ (.slice none 0 0)).setCell ⟨A + 1 + 1, 3, none⟩ (.int .i64 0)).setCell ⟨A + 1 + 1, 4, none⟩ (.int .i64 R)).drew = Wf ∧ BlkIs #[v, .slice none 0 0, .slice none 0 0, .int .i64 0, .int .i64 R] 41 (A + 1) Wf ∧ BlkIs #[v, .slice none 0 0, .slice none 0 0, .int .i64 0, .int .i64 R] 48 (A + 1 + 1) Wf ∧ Below A w Wf := by
  refine ⟨_, rfl, ?_, ?_, ?_⟩
  · have h1 := ((((h.h1.set 0 v).set 1 (.slice none 0 0)).set 2 (.slice none 0 0)).set 3 (.int .i64 0)).set 4 (.int .i64 R)
    have ne : A + 1 ≠ A + 1 + 1 := by omega
    exact BlkIs.drewN (((((h1.far ne v).far ne (.slice none 0 0)).far ne (.slice none 0 0)).far ne (.int .i64 0)).far ne (.int .i64 R)) 1
  · have ne : ∀ i, A + 1 + 1 ≠ (⟨A + 1, i, none⟩ : Addr).block := fun i => by simp
    have h1 := ((((h.h2.far (ne 0) v).far (ne 1) (.slice none 0 0)).far (ne 2) (.slice none 0 0)).far (ne 3) (.int .i64 0)).far (ne 4) (.int .i64 R)
    exact BlkIs.drewN (((((h1.set 0 v).set 1 (.slice none 0 0)).set 2 (.slice none 0 0)).set 3 (.int .i64 0)).set 4 (.int .i64 R)) 1
  · have l1 : A ≤ A + 1 := by omega
    have l2 : A ≤ A + 1 + 1 := by omega
    have h1 := ((((hb.setCell (p := ⟨A + 1, 0, none⟩) l1 v).setCell (p := ⟨A + 1, 1, none⟩) l1 (.slice none 0 0)).setCell (p := ⟨A + 1, 2, none⟩) l1 (.slice none 0 0)).setCell (p := ⟨A + 1, 3, none⟩) l1 (.int .i64 0)).setCell (p := ⟨A + 1, 4, none⟩) l1 (.int .i64 R)
    have h2 := ((((h1.setCell (p := ⟨A + 1 + 1, 0, none⟩) l2 v).setCell (p := ⟨A + 1 + 1, 1, none⟩) l2 (.slice none 0 0)).setCell (p := ⟨A + 1 + 1, 2, none⟩) l2 (.slice none 0 0)).setCell (p := ⟨A + 1 + 1, 3, none⟩) l2 (.int .i64 0)).setCell (p := ⟨A + 1 + 1, 4, none⟩) l2 (.int .i64 R)
    exact h2.drew
theorem results_two_rows {P : Program} {fn : Func} {p q : Tmp} {t1 t2 : TypeId} (h : fn.results = #[.cell p t1, .cell q t2]) (tmps : Array Value) (w : World) (A B : Nat) (u1 u2 : TypeId) (cs ds : Array Value) (fr fs : Nat × Nat) (d e : TypeDesc)
    (hp : tmps.getD p undef = .pointer (some ⟨A, 0, none⟩)) (hq : tmps.getD q undef = .pointer (some ⟨B, 0, none⟩)) (hg : w.heap[A]? = some (.cells cs u1 fr)) (hk : w.heap[B]? = some (.cells ds u2 fs))
    (hu : P.underlying t1 = some d) (hd : (match d with | .struct _ | .array _ _ => true | _ => false) = true) (hi : (P.info? t1).map (·.size) = some cs.size)
    (hv : P.underlying t2 = some e) (he : (match e with | .struct _ | .array _ _ => true | _ => false) = true) (hj : (P.info? t2).map (·.size) = some ds.size) :
    (results fn tmps).run P w = .ok (.tuple #[.agg cs, .agg ds]) w := by
  have hp' : tmps[p]?.getD undef = .pointer (some ⟨A, 0, none⟩) := by simpa using hp
  have hq' : tmps[q]?.getD undef = .pointer (some ⟨B, 0, none⟩) := by simpa using hq
  simp [results, h, hp', hq', asAddr, run_loadVar_row w A u1 t1 cs fr d hg hu hd hi, run_loadVar_row w B u2 t2 ds fs e hk hv he hj]
end Go.Proofs.YtljlgbjbhokhlaaGreatDoor

namespace Go.Proofs.YtljlgbjbhokhlaaGreatDoor
open Go.ChangeShapes Go.WideShapes Go.ChangeAt Go.RowKit
set_option linter.unusedVariables false
set_option linter.unusedSimpArgs false

set_option maxHeartbeats 8000000 in
set_option maxRecDepth 100000 in
theorem heardG_any (k : Nat) (hk : k ≤ 11) (n : Nat) (hn64 : n < 18446744073709551000) (r : Int) (hr1 : -9223372036854775808 ≤ r) (hr2 : r ≤ 9223372036854775807) (R : Int) (hR : max (-1) (min r 1099511627776) = R) (w : World) :
    Calls Tryz.prog 31 #[.agg #[.int .i64 0, .int .i64 k, .int .i64 0, .int .i64 0, .int .i64 0, .int .u64 n, .int .i64 r, .int .i64 0]] w fun e w' => ∃ p c, e = .returned (.tuple #[.agg #[.slice p k c, .slice none 0 0, .slice none 0 0, .int .i64 0, .int .i64 R], .agg #[.slice p k c, .slice none 0 0, .slice none 0 0, .int .i64 0, .int .i64 R]]) ∧ Below w.heap.size w w' := by
  have hk12 : (k : Int).tmod 12 = (k : Int) := by rw [Int.tmod_eq_emod_of_nonneg (by omega)]; omega
  have hk13 : (k : Int) % 12 = (k : Int) := by omega
  obtain ⟨W, A, hW, hA, hi0, hbl, hsz⟩ := hrd_new k n r w
  have HAe := Lib.hid hA
  go_enter Tryz.func31, Tryz.ntmps31
  have o1 : W.cell? ⟨A, 1, none⟩ = some (.int .i64 k) := BlkIs.cell hi0.o 1
  go_upto_region 4 with fail
  have HI0 := Lib.hid hi0
  have HB0 := Lib.hid hbl
  clear hW hA hi0 hbl o1
  obtain ⟨i0, hi, hz0, hz1, hz2⟩ := info_parts infoU64s
  have q0 : W.cell? ⟨A + 1 + 1 + 1 + 1, 0, none⟩ = some (.int .i64 k) := BlkIs.cell HI0.out.q 0
  go_wp2
  refine wp_loop_rounds 4 ?_
  rw [rounds_succ]
  go_wp2
  go_loopw [4, 8] (fun nv jv wr => ∃ (j : Nat) (v : Value) (xs : List Value), jv = .int .i64 (j : Int) ∧ nv = .int .u64 ((n : Int) + (j : Int)) ∧ j ≤ k ∧ Hid (HrdI A k n r v wr ∧ wr.ownsRow (A + 5) 22 1 v j xs ∧ Below A w wr ∧ A + 5 ≤ wr.heap.size)) (fun _ jv _ => k - (intOf jv).toNat)
  case atStart => exact ⟨0, _, [], rfl, by simp, Nat.zero_le _, Lib.hid ⟨HI0.out, World.ownsRow_nil _ _ _ _, HB0.out, by omega⟩⟩
  case round =>
    obtain ⟨j, v, xs, rfl, rfl, hj, hI⟩ := hrel
    by_cases hjk : j < k
    · obtain ⟨X, hX⟩ : ∃ X, ((n + j : Nat) : Int) % 281474976710656 = X := ⟨_, rfl⟩
      have HSQ : Hid (∀ W, Calls Tryz.prog 58 #[.int .u64 ((n : Int) + (j : Int))] W fun e w' => e = .returned (.int .u64 X) ∧ W = w') := Lib.hid (fun W => by
        have h := refSeq_any (n + j) (by omega) W
        rw [hX, show ((n + j : Nat) : Int) = (n : Int) + (j : Int) by omega] at h
        exact h)
      obtain ⟨hdi, hown, hbw, hsz2⟩ := hI.out
      have c0 : wr.cell? ⟨A + 1 + 1 + 1, 0, none⟩ = some v := BlkIs.cell hdi.l 0
      have n0 : ∀ j o, ((wr.drewN j).alloc o).cell? ⟨A + 1 + 1 + 1, 0, none⟩ = some v := fun j o => BlkIs.cell ((hdi.drewN j).alloc o).l 0
      have n1 : ∀ o, (wr.alloc o).cell? ⟨A + 1 + 1 + 1, 0, none⟩ = some v := fun o => BlkIs.cell (hdi.alloc o).l 0
      obtain ⟨B, hB⟩ : ∃ B, wr.heap.size = B := ⟨_, rfl⟩
      have HRT : Hid (∀ q, ((wr.drewN q).alloc (.cells #[.int .u64 X] 22)).ownsRow (A + 5) 22 1 v j xs) := Lib.hid (fun q => hown.alloc _)
      have HNW : Hid (∀ q, ∀ i u, ([.int .u64 X] : List Value)[i]? = some u → ((wr.drewN q).alloc (.cells #[.int .u64 X] 22)).cell? ((⟨B, 0, none⟩ : Addr).add i) = some u) := Lib.hid (fun q => World.news_of_block (fr := (0, 0)) (t := 22) (by
        have := BlkIs.new #[.int .u64 X] 22 (wr.drewN q)
        rw [show (wr.drewN q).heap.size = B from hB] at this
        exact this))
      have HSZ : Hid (∀ q, A + 5 ≤ ((wr.drewN q).alloc (.cells #[.int .u64 X] 22)).heap.size) := Lib.hid (fun q => Nat.le_trans hsz2 (bel_trans (bel_drewN wr q) (bel_alloc _ _)).size)
      have HBQ : Hid (∀ q, Below A w ((wr.drewN q).alloc (.cells #[.int .u64 X] 22)) ∧ HrdI A k n r v ((wr.drewN q).alloc (.cells #[.int .u64 X] 22))) := Lib.hid (fun q => ⟨hbw.trans ((bel_trans (bel_drewN wr q) (bel_alloc _ _)).mono (by omega)), (hdi.drewN q).alloc _⟩)
      clear hdi hown hbw hX
      go_upto_region 9 with fail
      go_region_law (first
        | (go_simp; go_at_call 58; (with_reducible refine (HSQ.out _).mono ?_); rintro e w5 ⟨rfl, rfl⟩)
        | (refine step_append_lies _ rfl (.tmp 35) (.tmp 38) 39 rfl (A + 5) 22 i0 (.int .u64 0) 1 8 Tryz.underlying39 hi hz0 hz1 hz2 rfl (by decide) v j xs (by simp [Act.eval, Act.put]) (HRT.out _) ⟨B, 0, none⟩ 1 1 [.int .u64 X] (by simp [Act.eval, Act.put]) rfl (HNW.out _) (by intro u hu; simp at hu; subst hu; rfl) (by decide) (by unfold maxLen; omega) (by omega) (HSZ.out _) _ rfl ?_; intro g2 cap2 w1 hown hgrow hat hlt; have hown0 := (HRT.out 0).lt; have hd1 := HrdI.grown (HBQ.out _).2 hgrow (fun g hg => (hown0 g hg).1); have hb1 := Below.grown (HBQ.out _).1 hgrow (Nat.le_trans (Nat.le_add_right A 5) (HSZ.out _)) (fun g hg => by have := (hown0 g hg).1; omega); have a1 : w1.cell? ⟨A + 1 + 1 + 1, 0, none⟩ = some v := BlkIs.cell hd1.l 0; have f1 := BlkIs.free hd1.l 0))
      all_goals
        have HI2 : Hid (HrdI A k n r (.slice (some ⟨g2, 0, none⟩) (j + 1) cap2) (w1.setCell ⟨A + 1 + 1 + 1, 0, none⟩ (.slice (some ⟨g2, 0, none⟩) (j + 1) cap2)) ∧ (w1.setCell ⟨A + 1 + 1 + 1, 0, none⟩ (.slice (some ⟨g2, 0, none⟩) (j + 1) cap2)).ownsRow (A + 5) 22 1 (.slice (some ⟨g2, 0, none⟩) (j + 1) cap2) (j + 1) (xs ++ [.int .u64 X]) ∧ Below A w (w1.setCell ⟨A + 1 + 1 + 1, 0, none⟩ (.slice (some ⟨g2, 0, none⟩) (j + 1) cap2)) ∧ A + 5 ≤ (w1.setCell ⟨A + 1 + 1 + 1, 0, none⟩ (.slice (some ⟨g2, 0, none⟩) (j + 1) cap2)).heap.size) := Lib.hid ⟨hd1.put, ownsRow_setCell_below hown (show A + 1 + 1 + 1 < A + 5 by omega) _, hb1.setCell (p := ⟨A + 1 + 1 + 1, 0, none⟩) (by simp; omega) _, by simpa using Nat.le_trans (HSZ.out _) hgrow.size⟩
        clear hd1 hown hb1 hgrow hat hlt a1 f1 c0 n0 n1 HRT HNW HSZ HBQ hown0 hI
        generalize w1.setCell ⟨A + 1 + 1 + 1, 0, none⟩ (.slice (some ⟨g2, 0, none⟩) (j + 1) cap2) = wf at *
        go_wp2
        refine ⟨⟨j + 1, _, _, by go_num, by first | go_num | (congr 1; omega), by omega, HI2⟩, ?_⟩
        simp [intOf]; omega
    · obtain rfl : j = k := by omega
      obtain ⟨hdi, hown, hbw, hsz2⟩ := hI.out
      obtain ⟨p, c, hv⟩ : ∃ p c, v = .slice p j c := by
        rcases hown.2 with ⟨h1, h2⟩ | ⟨g, cap, cur, h1, _⟩
        · exact ⟨none, 0, by rw [h1, h2]⟩
        · exact ⟨_, _, h1⟩
      subst hv
      have q1 : wr.cell? ⟨A + 1 + 1 + 1 + 1, 1, none⟩ = some (.int .i64 0) := BlkIs.cell hdi.q 1
      have q2 : wr.cell? ⟨A + 1 + 1 + 1 + 1, 2, none⟩ = some (.int .i64 0) := BlkIs.cell hdi.q 2
      have o4 : wr.cell? ⟨A, 4, none⟩ = some (.int .i64 0) := BlkIs.cell hdi.o 4
      have o6 : wr.cell? ⟨A, 6, none⟩ = some (.int .i64 r) := BlkIs.cell hdi.o 6
      clear hI HI0 HB0 q0
      go_wp2
      rw [rounds_succ]
      go_wp2
      refine wp_loop_rounds 1 ?_
      rw [rounds_succ]
      go_wp2
      rw [rounds_succ]
      go_wp2
      refine wp_loop_rounds 1 ?_
      rw [rounds_succ]
      go_wp2
      rw [rounds_succ]
      go_upto_region 14 with fail
      have l0 : wr.cell? ⟨A + 1 + 1 + 1, 0, none⟩ = some (.slice p j c) := BlkIs.cell hdi.l 0
      have l1 : wr.cell? ⟨A + 1 + 1 + 1, 1, none⟩ = some (.slice none 0 0) := BlkIs.cell hdi.l 1
      have l2 : wr.cell? ⟨A + 1 + 1 + 1, 2, none⟩ = some (.slice none 0 0) := BlkIs.cell hdi.l 2
      have x0 := BlkIs.cell hdi.h1 0
      have x1 := BlkIs.cell hdi.h1 1
      have x2 := BlkIs.cell hdi.h1 2
      have x3 := BlkIs.cell hdi.h1 3
      have x4 := BlkIs.cell hdi.h1 4
      have y0 := BlkIs.cell hdi.h2 0
      have y1 := BlkIs.cell hdi.h2 1
      have y2 := BlkIs.cell hdi.h2 2
      have y3 := BlkIs.cell hdi.h2 3
      have y4 := BlkIs.cell hdi.h2 4
      have fx := BlkIs.free hdi.h1
      have fy := BlkIs.free hdi.h2
      simp only [noneH] at x0 x1 x2 x3 x4 y0 y1 y2 y3 y4
      have HDI := Lib.hid hdi
      have HBW := Lib.hid hbw
      clear hdi hown hbw q1 q2 o4 o6
      go_region
      obtain ⟨Wf, hWf, e1, e2, e3⟩ := hrd_end HDI.out HBW.out R
      rw [hWf]
      go_wp2
      rw [HAe.out]
      refine bodyPost_ret (results_two_rows Tryz.results31 _ _ (A + 1) (A + 1 + 1) 41 48 _ _ (0, 0) (0, 0) _ _ rfl rfl e1 e2 Tryz.underlying41 rfl (by kernel_rfl) Tryz.underlying48 rfl (by kernel_rfl)) rfl ⟨p, c, rfl, ?_⟩
      exact e3
end Go.Proofs.YtljlgbjbhokhlaaGreatDoor

namespace Go.Proofs.YtljlgbjbhokhlaaGreatDoor
open Go.ChangeShapes Go.WideShapes Go.ChangeAt Go.RowKit
set_option linter.unusedVariables false
set_option linter.unusedSimpArgs false

def wopL (n : Nat) (r : Int) : Array Value := #[.int .i64 0, .int .i64 0, .int .i64 1, .int .i64 0, .int .i64 0, .int .u64 n, .int .i64 r, .int .i64 0]
/-- What heard has made: the word, two answers, three lists, how many each has. -/
structure HrdL (A n : Nat) (r : Int) (v : Value) (W : World) : Prop where
  o : BlkIs (wopL n r) 52 A W
  h1 : BlkIs noneH 41 (A + 1) W
  h2 : BlkIs noneH 48 (A + 1 + 1) W
  l : BlkIs #[.slice none 0 0, .slice none 0 0, v] 122 (A + 1 + 1 + 1) W
  q : BlkIs #[.int .i64 0, .int .i64 0, .int .i64 1] 3 (A + 1 + 1 + 1 + 1) W
theorem HrdL.drewN {A n : Nat} {r : Int} {v : Value} {W : World} (h : HrdL A n r v W) (j : Nat) : HrdL A n r v (W.drewN j) := ⟨h.o, h.h1, h.h2, h.l, h.q⟩
theorem HrdL.alloc {A n : Nat} {r : Int} {v : Value} {W : World} (h : HrdL A n r v W) (x : Obj) : HrdL A n r v (W.alloc x) := ⟨h.o.alloc _, h.h1.alloc _, h.h2.alloc _, h.l.alloc _, h.q.alloc _⟩
theorem HrdL.grown {A n : Nat} {r : Int} {v : Value} {W W' : World} {row : Option Nat} (h : HrdL A n r v W) (hg : W.grownBy W' row) (hr : ∀ g, row = some g → A + 5 ≤ g) : HrdL A n r v W' := by
  have ne : ∀ x, x < A + 5 → some x ≠ row := fun x hx e => by have := hr x e.symm; omega
  exact ⟨h.o.grown hg (ne _ (by omega)), h.h1.grown hg (ne _ (by omega)), h.h2.grown hg (ne _ (by omega)), h.l.grown hg (ne _ (by omega)), h.q.grown hg (ne _ (by omega))⟩
theorem HrdL.put {A n : Nat} {r : Int} {v v' : Value} {W : World} (h : HrdL A n r v W) : HrdL A n r v' (W.setCell ⟨A + 1 + 1 + 1, 2, none⟩ v') :=
  ⟨h.o.far (show A ≠ A + 1 + 1 + 1 by omega) _, h.h1.far (show A + 1 ≠ A + 1 + 1 + 1 by omega) _, h.h2.far (show A + 1 + 1 ≠ A + 1 + 1 + 1 by omega) _, h.l.set 2 v', h.q.far (show A + 1 + 1 + 1 + 1 ≠ A + 1 + 1 + 1 by omega) _⟩
theorem hrdL_new (n : Nat) (r : Int) (w : World) : ∃ W A, (((((w.alloc (.cells #[.int .i64 0, .int .i64 0, .int .i64 1, .int .i64 0, .int .i64 0, .int .u64 n, .int .i64 r, .int .i64 0] 52)).alloc (.cells #[.slice none 0 0, .slice none 0 0, .slice none 0 0, .int .i64 0, .int .i64 0] 41)).alloc (.cells #[.slice none 0 0, .slice none 0 0, .slice none 0 0, .int .i64 0, .int .i64 0] 48)).alloc (.cells #[.slice none 0 0, .slice none 0 0, .slice none 0 0] 122)).alloc (.cells #[.int .i64 0, .int .i64 0, .int .i64 1] 3)) = W ∧ w.heap.size = A ∧ HrdL A n r (.slice none 0 0) W ∧ Below A w W ∧ W.heap.size = A + 5 := by
  refine ⟨_, _, rfl, rfl, ⟨?_, ?_, ?_, ?_, ?_⟩, bel_trans (bel_trans (bel_trans (bel_trans (bel_alloc _ _) (bel_alloc _ _)) (bel_alloc _ _)) (bel_alloc _ _)) (bel_alloc _ _), by simp⟩
  · exact (((((hrd_at rfl).alloc _).alloc _).alloc _).alloc _)
  · exact ((((hrd_at (by simp)).alloc _).alloc _).alloc _)
  · exact (((hrd_at (by simp)).alloc _).alloc _)
  · exact ((hrd_at (by simp)).alloc _)
  · exact hrd_at (by simp)
theorem hrdL_end {A n : Nat} {r : Int} {v : Value} {xs : List Value} {m : Nat} {w W : World} (h : HrdL A n r v W) (hb : Below A w W) (ho : W.ownsRow (A + 5) 22 1 v m xs) (R : Int) : ∃ Wf, ((((((((((W.setCell ⟨A + 1, 0, none⟩ (.slice none 0 0)).setCell ⟨A + 1, 1, none⟩ (.slice none 0 0)).setCell ⟨A + 1, 2, none⟩ v).setCell ⟨A + 1, 3, none⟩ (.int .i64 0)).setCell ⟨A + 1, 4, none⟩ (.int .i64 R)).setCell ⟨A + 1 + 1, 0, none⟩ (.slice none 0 0)).setCell ⟨A + 1 + 1, 1, none⟩ (.slice none 0 0)).setCell ⟨A + 1 + 1, 2, none⟩ v).setCell ⟨A + 1 + 1, 3, none⟩ (.int .i64 0)).setCell ⟨A + 1 + 1, 4, none⟩ (.int .i64 R)).drew = Wf ∧ BlkIs #[.slice none 0 0, .slice none 0 0, v, .int .i64 0, .int .i64 R] 41 (A + 1) Wf ∧ BlkIs #[.slice none 0 0, .slice none 0 0, v, .int .i64 0, .int .i64 R] 48 (A + 1 + 1) Wf ∧ Below A w Wf ∧ Wf.ownsRow (A + 5) 22 1 v m xs := by
  have l1 : A ≤ A + 1 := by omega
  have l2 : A ≤ A + 1 + 1 := by omega
  have m1 : A + 1 < A + 5 := by omega
  have m2 : A + 1 + 1 < A + 5 := by omega
  refine ⟨_, rfl, ?_, ?_, ?_, ?_⟩
  · have h1 := ((((h.h1.set 0 (.slice none 0 0)).set 1 (.slice none 0 0)).set 2 v).set 3 (.int .i64 0)).set 4 (.int .i64 R)
    have ne : A + 1 ≠ A + 1 + 1 := by omega
    exact BlkIs.drewN (((((h1.far ne (.slice none 0 0)).far ne (.slice none 0 0)).far ne v).far ne (.int .i64 0)).far ne (.int .i64 R)) 1
  · have ne : ∀ i, A + 1 + 1 ≠ (⟨A + 1, i, none⟩ : Addr).block := fun i => by simp
    have h1 := ((((h.h2.far (ne 0) (.slice none 0 0)).far (ne 1) (.slice none 0 0)).far (ne 2) v).far (ne 3) (.int .i64 0)).far (ne 4) (.int .i64 R)
    exact BlkIs.drewN (((((h1.set 0 (.slice none 0 0)).set 1 (.slice none 0 0)).set 2 v).set 3 (.int .i64 0)).set 4 (.int .i64 R)) 1
  · have h1 := ((((hb.setCell (p := ⟨A + 1, 0, none⟩) l1 (.slice none 0 0)).setCell (p := ⟨A + 1, 1, none⟩) l1 (.slice none 0 0)).setCell (p := ⟨A + 1, 2, none⟩) l1 v).setCell (p := ⟨A + 1, 3, none⟩) l1 (.int .i64 0)).setCell (p := ⟨A + 1, 4, none⟩) l1 (.int .i64 R)
    have h2 := ((((h1.setCell (p := ⟨A + 1 + 1, 0, none⟩) l2 (.slice none 0 0)).setCell (p := ⟨A + 1 + 1, 1, none⟩) l2 (.slice none 0 0)).setCell (p := ⟨A + 1 + 1, 2, none⟩) l2 v).setCell (p := ⟨A + 1 + 1, 3, none⟩) l2 (.int .i64 0)).setCell (p := ⟨A + 1 + 1, 4, none⟩) l2 (.int .i64 R)
    exact h2.drew
  · have k1 := ownsRow_setCell_below ho (a := ⟨A + 1, 0, none⟩) m1 (.slice none 0 0)
    have k2 := ownsRow_setCell_below k1 (a := ⟨A + 1, 1, none⟩) m1 (.slice none 0 0)
    have k3 := ownsRow_setCell_below k2 (a := ⟨A + 1, 2, none⟩) m1 v
    have k4 := ownsRow_setCell_below k3 (a := ⟨A + 1, 3, none⟩) m1 (.int .i64 0)
    have k5 := ownsRow_setCell_below k4 (a := ⟨A + 1, 4, none⟩) m1 (.int .i64 R)
    have k6 := ownsRow_setCell_below k5 (a := ⟨A + 1 + 1, 0, none⟩) m2 (.slice none 0 0)
    have k7 := ownsRow_setCell_below k6 (a := ⟨A + 1 + 1, 1, none⟩) m2 (.slice none 0 0)
    have k8 := ownsRow_setCell_below k7 (a := ⟨A + 1 + 1, 2, none⟩) m2 v
    have k9 := ownsRow_setCell_below k8 (a := ⟨A + 1 + 1, 3, none⟩) m2 (.int .i64 0)
    have k10 := ownsRow_setCell_below k9 (a := ⟨A + 1 + 1, 4, none⟩) m2 (.int .i64 R)
    exact k10.drew
end Go.Proofs.YtljlgbjbhokhlaaGreatDoor

namespace Go.Proofs.YtljlgbjbhokhlaaGreatDoor
open Go.ChangeShapes Go.WideShapes Go.ChangeAt Go.RowKit
set_option linter.unusedVariables false
set_option linter.unusedSimpArgs false

set_option maxHeartbeats 8000000 in
set_option maxRecDepth 100000 in
theorem heardL_any (n : Nat) (hn64 : n < 18446744073709551000) (r : Int) (hr1 : -9223372036854775808 ≤ r) (hr2 : r ≤ 9223372036854775807) (R : Int) (hR : max (-1) (min r 1099511627776) = R) (w : World) :
    Calls Tryz.prog 31 #[.agg #[.int .i64 0, .int .i64 0, .int .i64 1, .int .i64 0, .int .i64 0, .int .u64 n, .int .i64 r, .int .i64 0]] w fun e w' => ∃ p c, e = .returned (.tuple #[.agg #[.slice none 0 0, .slice none 0 0, .slice p 1 c, .int .i64 0, .int .i64 R], .agg #[.slice none 0 0, .slice none 0 0, .slice p 1 c, .int .i64 0, .int .i64 R]]) ∧ Below w.heap.size w w' ∧ w'.ownsRow (w.heap.size + 5) 22 1 (.slice p 1 c) 1 [.int .u64 ((n : Int) % 281474976710656)] := by
  have hk12 : (1 : Int).tmod 12 = 1 := by decide
  have hk13 : (1 : Int) % 12 = 1 := by decide
  have hk02 : (0 : Int).tmod 12 = 0 := by decide
  obtain ⟨W, A, hW, hA, hi0, hbl, hsz⟩ := hrdL_new n r w
  have HAe := Lib.hid hA
  go_enter Tryz.func31, Tryz.ntmps31
  have o1 : W.cell? ⟨A, 1, none⟩ = some (.int .i64 0) := BlkIs.cell hi0.o 1
  have o2 : W.cell? ⟨A, 2, none⟩ = some (.int .i64 1) := BlkIs.cell hi0.o 2
  have o3 : W.cell? ⟨A, 3, none⟩ = some (.int .i64 0) := BlkIs.cell hi0.o 3
  go_upto_region 4 with fail
  have HI0 := Lib.hid hi0
  have HB0 := Lib.hid hbl
  clear hW hA hi0 hbl o1 o2 o3
  obtain ⟨i0, hi, hz0, hz1, hz2⟩ := info_parts infoU64s
  have q0 : W.cell? ⟨A + 1 + 1 + 1 + 1, 0, none⟩ = some (.int .i64 0) := BlkIs.cell HI0.out.q 0
  have q1 : W.cell? ⟨A + 1 + 1 + 1 + 1, 1, none⟩ = some (.int .i64 0) := BlkIs.cell HI0.out.q 1
  have q2 : W.cell? ⟨A + 1 + 1 + 1 + 1, 2, none⟩ = some (.int .i64 1) := BlkIs.cell HI0.out.q 2
  go_wp2
  refine wp_loop_rounds 4 ?_
  rw [rounds_succ]
  go_wp2
  refine wp_loop_rounds 1 ?_
  rw [rounds_succ]
  go_wp2
  rw [rounds_succ]
  go_wp2
  refine wp_loop_rounds 1 ?_
  rw [rounds_succ]
  go_wp2
  rw [rounds_succ]
  go_wp2
  go_loopw [4, 8] (fun nv jv wr => ∃ (j : Nat) (v : Value) (xs : List Value), jv = .int .i64 (j : Int) ∧ nv = .int .u64 ((n : Int) + (j : Int)) ∧ j ≤ 1 ∧ xs = [Value.int .u64 ((n : Int) % 281474976710656)].take j ∧ Hid (HrdL A n r v wr ∧ wr.ownsRow (A + 5) 22 1 v j xs ∧ Below A w wr ∧ A + 5 ≤ wr.heap.size)) (fun _ jv _ => 1 - (intOf jv).toNat)
  case atStart => exact ⟨0, _, [], rfl, by simp, Nat.zero_le _, rfl, Lib.hid ⟨HI0.out, World.ownsRow_nil _ _ _ _, HB0.out, by omega⟩⟩
  case round =>
    obtain ⟨j, v, xs, rfl, rfl, hj, hxs, hI⟩ := hrel
    by_cases hjk : j < 1
    · have hj0 : j = 0 := by omega
      have HJ := Lib.hid hj0
      have HXX := Lib.hid hxs
      have hjb : j ≤ 11 := by omega
      have hjd : decide ((j : Int) < 1) = true := decide_eq_true (by omega)
      clear hjk hj hj0 hxs
      obtain ⟨X, hX⟩ : ∃ X, ((n + j : Nat) : Int) % 281474976710656 = X := ⟨_, rfl⟩
      have HSQ : Hid (∀ W, Calls Tryz.prog 58 #[.int .u64 ((n : Int) + (j : Int))] W fun e w' => e = .returned (.int .u64 X) ∧ W = w') := Lib.hid (fun W => by
        have h := refSeq_any (n + j) (by omega) W
        rw [hX, show ((n + j : Nat) : Int) = (n : Int) + (j : Int) by omega] at h
        exact h)
      obtain ⟨hdi, hown, hbw, hsz2⟩ := hI.out
      have c0 : wr.cell? ⟨A + 1 + 1 + 1, 2, none⟩ = some v := BlkIs.cell hdi.l 2
      have n0 : ∀ j o, ((wr.drewN j).alloc o).cell? ⟨A + 1 + 1 + 1, 2, none⟩ = some v := fun j o => BlkIs.cell ((hdi.drewN j).alloc o).l 2
      have n1 : ∀ o, (wr.alloc o).cell? ⟨A + 1 + 1 + 1, 2, none⟩ = some v := fun o => BlkIs.cell (hdi.alloc o).l 2
      obtain ⟨B, hB⟩ : ∃ B, wr.heap.size = B := ⟨_, rfl⟩
      have HRT : Hid (∀ q, ((wr.drewN q).alloc (.cells #[.int .u64 X] 22)).ownsRow (A + 5) 22 1 v j xs) := Lib.hid (fun q => hown.alloc _)
      have HNW : Hid (∀ q, ∀ i u, ([.int .u64 X] : List Value)[i]? = some u → ((wr.drewN q).alloc (.cells #[.int .u64 X] 22)).cell? ((⟨B, 0, none⟩ : Addr).add i) = some u) := Lib.hid (fun q => World.news_of_block (fr := (0, 0)) (t := 22) (by
        have := BlkIs.new #[.int .u64 X] 22 (wr.drewN q)
        rw [show (wr.drewN q).heap.size = B from hB] at this
        exact this))
      have HSZ : Hid (∀ q, A + 5 ≤ ((wr.drewN q).alloc (.cells #[.int .u64 X] 22)).heap.size) := Lib.hid (fun q => Nat.le_trans hsz2 (bel_trans (bel_drewN wr q) (bel_alloc _ _)).size)
      have HBQ : Hid (∀ q, Below A w ((wr.drewN q).alloc (.cells #[.int .u64 X] 22)) ∧ HrdL A n r v ((wr.drewN q).alloc (.cells #[.int .u64 X] 22))) := Lib.hid (fun q => ⟨hbw.trans ((bel_trans (bel_drewN wr q) (bel_alloc _ _)).mono (by omega)), (hdi.drewN q).alloc _⟩)
      have HXE := Lib.hid hX
      clear hdi hown hbw hX
      go_upto_region 9 with fail
      clear hjd
      go_region_law (first
        | (go_simp; go_at_call 58; (with_reducible refine (HSQ.out _).mono ?_); rintro e w5 ⟨rfl, rfl⟩)
        | (refine step_append_lies _ rfl (.tmp 35) (.tmp 38) 39 rfl (A + 5) 22 i0 (.int .u64 0) 1 8 Tryz.underlying39 hi hz0 hz1 hz2 rfl (by decide) v j xs (by simp [Act.eval, Act.put]) (HRT.out _) ⟨B, 0, none⟩ 1 1 [.int .u64 X] (by simp [Act.eval, Act.put]) rfl (HNW.out _) (by intro u hu; simp at hu; subst hu; rfl) (by decide) (by unfold maxLen; omega) (by omega) (HSZ.out _) _ rfl ?_; intro g2 cap2 w1 hown hgrow hat hlt; have hown0 := (HRT.out 0).lt; have hd1 := HrdL.grown (HBQ.out _).2 hgrow (fun g hg => (hown0 g hg).1); have hb1 := Below.grown (HBQ.out _).1 hgrow (Nat.le_trans (Nat.le_add_right A 5) (HSZ.out _)) (fun g hg => by have := (hown0 g hg).1; omega); have a1 : w1.cell? ⟨A + 1 + 1 + 1, 2, none⟩ = some v := BlkIs.cell hd1.l 2; have f1 := BlkIs.free hd1.l 2))
      all_goals
        have HI2 : Hid (HrdL A n r (.slice (some ⟨g2, 0, none⟩) (j + 1) cap2) (w1.setCell ⟨A + 1 + 1 + 1, 2, none⟩ (.slice (some ⟨g2, 0, none⟩) (j + 1) cap2)) ∧ (w1.setCell ⟨A + 1 + 1 + 1, 2, none⟩ (.slice (some ⟨g2, 0, none⟩) (j + 1) cap2)).ownsRow (A + 5) 22 1 (.slice (some ⟨g2, 0, none⟩) (j + 1) cap2) (j + 1) (xs ++ [.int .u64 X]) ∧ Below A w (w1.setCell ⟨A + 1 + 1 + 1, 2, none⟩ (.slice (some ⟨g2, 0, none⟩) (j + 1) cap2)) ∧ A + 5 ≤ (w1.setCell ⟨A + 1 + 1 + 1, 2, none⟩ (.slice (some ⟨g2, 0, none⟩) (j + 1) cap2)).heap.size) := Lib.hid ⟨hd1.put, ownsRow_setCell_below hown (show A + 1 + 1 + 1 < A + 5 by omega) _, hb1.setCell (p := ⟨A + 1 + 1 + 1, 2, none⟩) (by simp; omega) _, by simpa using Nat.le_trans (HSZ.out _) hgrow.size⟩
        have HXS : xs ++ [.int .u64 X] = [Value.int .u64 ((n : Int) % 281474976710656)].take (j + 1) := by rw [HXX.out, ← HXE.out, HJ.out]; simp
        clear hd1 hown hb1 hgrow hat hlt a1 f1 c0 n0 n1 HRT HNW HSZ HBQ hown0 hI
        generalize w1.setCell ⟨A + 1 + 1 + 1, 2, none⟩ (.slice (some ⟨g2, 0, none⟩) (j + 1) cap2) = wf at *
        go_wp2
        refine ⟨⟨j + 1, _, _, by go_num, by first | go_num | (congr 1; omega), by have := HJ.out; omega, HXS, HI2⟩, ?_⟩
        have hj0 := HJ.out
        subst hj0
        decide
    · obtain rfl : j = 1 := by omega
      have HXX := Lib.hid hxs
      obtain ⟨hdi, hown, hbw, hsz2⟩ := hI.out
      obtain ⟨p, c, hv⟩ : ∃ p c, v = .slice p 1 c := by
        rcases hown.2 with ⟨h1, h2⟩ | ⟨g, cap, cur, h1, _⟩
        · exact ⟨none, 0, by rw [h1, h2]⟩
        · exact ⟨_, _, h1⟩
      subst hv
      have o4 : wr.cell? ⟨A, 4, none⟩ = some (.int .i64 0) := BlkIs.cell hdi.o 4
      have o6 : wr.cell? ⟨A, 6, none⟩ = some (.int .i64 r) := BlkIs.cell hdi.o 6
      clear hI HI0 HB0 q0 q1 q2 hxs
      go_wp2
      rw [rounds_succ]
      go_upto_region 14 with fail
      have l0 : wr.cell? ⟨A + 1 + 1 + 1, 0, none⟩ = some (.slice none 0 0) := BlkIs.cell hdi.l 0
      have l1 : wr.cell? ⟨A + 1 + 1 + 1, 1, none⟩ = some (.slice none 0 0) := BlkIs.cell hdi.l 1
      have l2 : wr.cell? ⟨A + 1 + 1 + 1, 2, none⟩ = some (.slice p 1 c) := BlkIs.cell hdi.l 2
      have x0 := BlkIs.cell hdi.h1 0
      have x1 := BlkIs.cell hdi.h1 1
      have x2 := BlkIs.cell hdi.h1 2
      have x3 := BlkIs.cell hdi.h1 3
      have x4 := BlkIs.cell hdi.h1 4
      have y0 := BlkIs.cell hdi.h2 0
      have y1 := BlkIs.cell hdi.h2 1
      have y2 := BlkIs.cell hdi.h2 2
      have y3 := BlkIs.cell hdi.h2 3
      have y4 := BlkIs.cell hdi.h2 4
      have fx := BlkIs.free hdi.h1
      have fy := BlkIs.free hdi.h2
      simp only [noneH] at x0 x1 x2 x3 x4 y0 y1 y2 y3 y4
      have HDI := Lib.hid hdi
      have HBW := Lib.hid hbw
      have HOW := Lib.hid hown
      clear hdi hown hbw o4 o6
      go_region
      obtain ⟨Wf, hWf, e1, e2, e3, e4⟩ := hrdL_end HDI.out HBW.out HOW.out R
      rw [hWf]
      go_wp2
      rw [HAe.out]
      refine bodyPost_ret (results_two_rows Tryz.results31 _ _ (A + 1) (A + 1 + 1) 41 48 _ _ (0, 0) (0, 0) _ _ rfl rfl e1 e2 Tryz.underlying41 rfl (by kernel_rfl) Tryz.underlying48 rfl (by kernel_rfl)) rfl ⟨p, c, rfl, e3, ?_⟩
      rw [HXX.out] at e4
      exact e4
end Go.Proofs.YtljlgbjbhokhlaaGreatDoor
