/-
  Package sent: slices.Backward over the records; nothing is lost of few.
  Package sent: a Hear of three, and how many are out.
-/
import Derived.RangeFuncNested
import Derived.RangeFuncBound
import Derived.RangeFuncCalls
import Derived.RangeFuncLeaves
import Derived.RangeFuncBox
import Derived.Shelf.Abstract
import Derived.Shelf.RegionOpen
import Derived.OwnWalkIn
import Derived.TacticsInMore
import Derived.LoopNIn
import Derived.LoopIn
import Derived.RegionIn
import Derived.BigRegionIn
import Derived.Test.YtnhlachoimlhhaaGreatDoorSnM
import Derived.Test.YtnhlachoimlhhaaGreatDoorVecW
namespace Go.Proofs.YtnhlachoimlhhaaGreatDoor
open Go.ChangeShapes Go.WideShapes Go.ChangeAt Go.RowKit Go.Shelf
attribute [local go_sem] Oper.semAt_some
set_option linter.unusedVariables false
set_option linter.unusedSimpArgs false

/-- N - 1, N - 2, ..: the first k of them. -/
def dn (N k : Nat) : List Nat := (List.range k).map fun j => N - 1 - j
theorem dn_succ (N k : Nat) : dn N (k + 1) = dn N k ++ [N - 1 - k] := by unfold dn; rw [List.range_succ, List.map_append]; rfl
theorem dn_len (N k : Nat) : (dn N k).length = k := by simp [dn]
/-- What a round of Backward must keep: the closure's box, the row. -/
def KpS (Bs g : Nat) (W W' : World) : Prop := W'.heap[Bs]? = W.heap[Bs]? ∧ W'.heap[g]? = W.heap[g]?
theorem KpS.refl (Bs g : Nat) (W : World) : KpS Bs g W W := ⟨rfl, rfl⟩
theorem KpS.trans {Bs g : Nat} {A B C : World} (h : KpS Bs g A B) (k : KpS Bs g B C) : KpS Bs g A C := ⟨k.1.trans h.1, k.2.trans h.2⟩
theorem KpS.cellB {Bs g : Nat} {A B : World} (h : KpS Bs g A B) (i : Nat) : B.cell? ⟨Bs, i, none⟩ = A.cell? ⟨Bs, i, none⟩ := by unfold World.cell?; rw [h.1]
theorem KpS.cellG {Bs g : Nat} {A B : World} (h : KpS Bs g A B) (i : Nat) : B.cell? ⟨g, i, none⟩ = A.cell? ⟨g, i, none⟩ := by unfold World.cell?; rw [h.2]
def bkEnc (L : List Rec) (x : Nat) : Array Value := #[.int .i64 (x : Int), .agg #[.int .u64 (L.getD x (0, 0, 0)).1, .int .i64 (L.getD x (0, 0, 0)).2.1, .int .i64 (L.getD x (0, 0, 0)).2.2]]
set_option maxRecDepth 100000 in
set_option maxHeartbeats 2000000 in
theorem backS1_in (F : Fence) (n : Nat) (hF : F.fn 219) (hro : F.round = none) (hn : 1 ≤ n) (l Bs g c : Nat) (L : List Rec) (hL : L.length ≤ 1000) (J Jx : List Nat → World → Prop)
    (hY : ∀ pre x W, J pre W → pre.length < L.length → YieldAt F (n - 1) Tryz.prog l (bkEnc L x) W fun e W' =>
      (e = .returned (.bool true) ∧ J (pre ++ [x]) W' ∧ KpS Bs g W W') ∨ (e = .returned (.bool false) ∧ Jx (pre ++ [x]) W'))
    (W : World) (hBs : W.cell? ⟨Bs, 0, none⟩ = some (.slice (some ⟨g, 0, none⟩) L.length c)) (hc1 : L.length ≤ c) (hc2 : c ≤ 9223372036854775807)
    (hrow : ∀ i, i < L.length → W.cell? ⟨g, i * 3, none⟩ = some (.int .u64 (L.getD i (0, 0, 0)).1) ∧ W.cell? ⟨g, i * 3 + 1, none⟩ = some (.int .i64 (L.getD i (0, 0, 0)).2.1) ∧ W.cell? ⟨g, i * 3 + 2, none⟩ = some (.int .i64 (L.getD i (0, 0, 0)).2.2)) (h0 : J [] W) :
    CallsIn F n Tryz.prog 219 #[.func (.yield l) #[] #[], .pointer (some ⟨Bs, 0, none⟩)] W fun e W' => (∃ v, e = .returned v) ∧ ((∃ ys, ys = dn L.length L.length ∧ J ys W') ∨ (∃ pre, True ∧ Jx pre W')) := by
  have HROW := Lib.hid hrow
  obtain ⟨N, hN⟩ : ∃ N, L.length = N := ⟨_, rfl⟩
  rw [hN] at hL hc1 hY hBs HROW ⊢
  clear hrow hN
  refine callsIn_of_wp Tryz.func219 rfl hF ?_ hro
  simp only [Tryz.ntmps219, List.size_toArray, List.length_cons, List.length_nil, Nat.reduceAdd, Nat.reduceSub, Array.replicate_succ, Array.replicate_zero, List.push_toArray, List.append_toArray, List.nil_append, List.cons_append]
  gi_wp2
  gi_loopw [3] (fun i wr => ∃ k : Nat, k ≤ N ∧ i = .int .i64 ((N : Int) - 1 - (k : Int)) ∧ J (dn N k) wr ∧ KpS Bs g W wr) (fun i _ => (intOf i + 1).toNat)
  case atStart => exact ⟨0, Nat.zero_le _, by simp, h0, KpS.refl _ _ _⟩
  case round =>
    obtain ⟨k, hk, rfl, hJs, hkp⟩ := hrel
    have hBs2 : wr.cell? ⟨Bs, 0, none⟩ = some (.slice (some ⟨g, 0, none⟩) N c) := (hkp.cellB 0).trans hBs
    by_cases hlt : k < N
    · obtain ⟨m, hm⟩ : ∃ m, N - 1 - k = m := ⟨_, rfl⟩
      have hmi : (N : Int) - 1 - (k : Int) = (m : Int) := by omega
      have hml : m < N := by omega
      obtain ⟨x0, x1, x2⟩ := HROW.out m hml
      rw [← hkp.cellG] at x0 x1 x2
      obtain ⟨fn, tmps, assign, body, hy, hR⟩ := hY _ m wr hJs (by rw [dn_len]; exact hlt)
      have HR := Lib.hid hR
      unfold bkEnc at hy
      generalize L.getD m (0, 0, 0) = r at *
      obtain ⟨a, t, st⟩ := r
      simp only at x0 x1 x2 hy
      rw [hmi]
      clear hR hY HROW
      gi_wp2
      refine HR.out.mono ?_
      rintro e W3 (⟨rfl, hJ3, hk3⟩ | ⟨rfl, hJx3⟩)
      · have hwr : IntKind.i64.wrap ((m : Int) - 1) = (m : Int) - 1 := by rw [IntKind.wrap_i64]; omega
        gi_wp2
        go_roundw
        case rel => exact ⟨k + 1, by omega, by congr 1; omega, by rw [dn_succ, hm]; exact hJ3, hkp.trans hk3⟩
        case measure => simp [intOf]
      · gi_wp2
        refine bodyPost_ret (results_none rfl _ _ _) rfl ?_
        exact ⟨⟨_, rfl⟩, .inr ⟨_, trivial, hJx3⟩⟩
    · obtain rfl : k = N := by omega
      have hmi : (k : Int) - 1 - (k : Int) = -1 := by omega
      rw [hmi]
      gi_wp2
      go_end0
      exact ⟨⟨_, rfl⟩, .inl ⟨_, rfl, hJs⟩⟩
theorem backS_in (F : Fence) (n : Nat) (hF : F.fn 197) (hro : F.round = none) (p : Option Addr) (m c : Nat) (w : World) :
    CallsIn F n Tryz.prog 197 #[.slice p m c] w fun e w' => e = .returned (.func (.func 219) #[] #[.pointer (some ⟨w.heap.size, 0, none⟩)]) ∧ w' = w.alloc (.cells #[.slice p m c] 200) := by
  refine callsIn_of_wp Tryz.func197 rfl hF ?_ hro
  simp only [Tryz.ntmps197, List.size_toArray, List.length_cons, List.length_nil, Nat.reduceAdd, Nat.reduceSub, Array.replicate_succ, Array.replicate_zero, List.push_toArray, List.append_toArray, List.nil_append, List.cons_append]
  gi_wp2
  go_ret
  exact ⟨rfl, rfl⟩
theorem backS_stops (F : Fence) (n : Nat) (hF : F.fn 219) (hro : F.round = none) (hn : 1 ≤ n) (Bs g c : Nat) (L : List Rec) (hL : L.length ≤ 1000) (w : World) (hb1 : Bs < w.heap.size) (hg1 : g < w.heap.size) (hBs : w.cell? ⟨Bs, 0, none⟩ = some (.slice (some ⟨g, 0, none⟩) L.length c)) (hc1 : L.length ≤ c) (hc2 : c ≤ 9223372036854775807)
    (hrow : ∀ i, i < L.length → w.cell? ⟨g, i * 3, none⟩ = some (.int .u64 (L.getD i (0, 0, 0)).1) ∧ w.cell? ⟨g, i * 3 + 1, none⟩ = some (.int .i64 (L.getD i (0, 0, 0)).2.1) ∧ w.cell? ⟨g, i * 3 + 2, none⟩ = some (.int .i64 (L.getD i (0, 0, 0)).2.2)) :
    SeqStopsK F n Tryz.prog 219 #[.pointer (some ⟨Bs, 0, none⟩)] (bkEnc L) (KpS Bs g) (fun ys => ys = dn L.length L.length) (fun _ => True) L.length w := fun l J Jx W hW _ _ hY h0 =>
  backS1_in F n hF hro hn l Bs g c L hL J Jx hY W ((hW.cell (p := ⟨Bs, 0, none⟩) hb1).trans hBs) hc1 hc2 (fun i hi => ⟨(hW.cell (p := ⟨g, i * 3, none⟩) hg1).trans (hrow i hi).1, (hW.cell (p := ⟨g, i * 3 + 1, none⟩) hg1).trans (hrow i hi).2.1, (hW.cell (p := ⟨g, i * 3 + 2, none⟩) hg1).trans (hrow i hi).2.2⟩) h0
theorem reverseU_nil (w : World) : Calls Tryz.prog 198 #[.slice none 0 0] w fun e w' => e = .returned (.tuple #[]) ∧ w' = w := by
  go_enter Tryz.func198, Tryz.ntmps198
  go_wp2
  refine wp_loop_rounds 1 ?_
  rw [rounds_succ]
  go_wp2
  go_end0
  exact ⟨rfl, rfl⟩
theorem BlkIs.own {cs : Array Value} {T : TypeId} {C : Nat} {X Y : World} {row : Option Nat} (h : BlkIs cs T C X) (hg : X.grownBy Y row) (hr : ∀ r, row = some r → ∃ o : Obj, X.heap[r]? = some o ∧ o.isCells = false) : BlkIs cs T C Y :=
  h.grown hg (fun e => by
    obtain ⟨o, ho, hc⟩ := hr C e.symm
    rw [show X.heap[C]? = _ from h] at ho
    cases ho
    cases hc)
def loseAct (C B g N c b6 x : Nat) (r : Rec) : Act := { tmps := #[.pointer (some ⟨C, 0, none⟩), .pointer (some ⟨B, 0, none⟩), .slice none 0 0, .pointer (some ⟨B + 1, 0, none⟩), .pointer (some ⟨B + 1 + 1, 0, none⟩), .int .i64 (x : Int), .pointer (some ⟨b6, 0, none⟩), .pointer (some ⟨C, 0, none⟩), .pointer (some ⟨C, 0, none⟩), .pointer (some ⟨C, 0, none⟩), .slice (some ⟨g, 0, none⟩) N c, .func (.func 219) #[] #[.pointer (some ⟨B + 1 + 1 + 1, 0, none⟩)], .int .i64 (x : Int), .agg #[.int .u64 r.1, .int .i64 r.2.1, .int .i64 r.2.2], undef, undef, undef, undef, undef, undef, undef, undef, undef, undef, undef, undef, undef, undef, undef, undef, undef, undef, undef, undef, undef, undef, undef, undef, undef, undef, undef, undef, undef], defers := [] }
/-- The boxes of loseOvertaken, b got so far. -/
def LoseI (B C : Nat) (w : World) (pre : List Nat) (W : World) : Prop := ∃ b : Nat, b ≤ pre.length ∧ BlkIs #[.int .i64 (b : Int)] 3 (B + 1 + 1) W ∧ BlkIs #[.pointer (some ⟨C, 0, none⟩)] 174 B W ∧ BlkIs #[.slice none 0 0] 84 (B + 1) W ∧ Below B w W ∧ B + 1 + 1 + 1 < W.heap.size
set_option maxRecDepth 100000 in
set_option maxHeartbeats 4000000 in
theorem sentLose_few (L : List Rec) (hL : L.length ≤ 3) (C g c : Nat) (w : World) (h : RecsAt L C g c w) :
    Calls Tryz.prog 171 #[.pointer (some ⟨C, 0, none⟩)] w fun e w' => e = .returned (.slice none 0 0) ∧ Below w.heap.size w w' := by
  refine (callsIn_wide (n := 8)).1 ?_
  refine callsIn_of_wp_marks Tryz.func171 rfl trivial ?_ rfl
  simp only [Tryz.ntmps171, List.size_toArray, List.length_cons, List.length_nil, Nat.reduceAdd, Nat.reduceSub, Array.replicate_succ, Array.replicate_zero, List.push_toArray, List.append_toArray, List.nil_append, List.cons_append]
  have HB : Hid (Below w.heap.size w (((w.alloc (.cells #[.pointer (some ⟨C, 0, none⟩)] 174)).alloc (.cells #[.slice none 0 0] 84)).alloc (.cells #[.int .i64 0] 3))) := Lib.hid ((((Kept.refl [] w).alloc _).alloc _).alloc _).below0
  have hsz : (((w.alloc (.cells #[.pointer (some ⟨C, 0, none⟩)] 174)).alloc (.cells #[.slice none 0 0] 84)).alloc (.cells #[.int .i64 0] 3)).heap.size = w.heap.size + 1 + 1 + 1 := by simp
  have k0 : BlkIs #[.pointer (some ⟨C, 0, none⟩)] 174 w.heap.size (((w.alloc (.cells #[.pointer (some ⟨C, 0, none⟩)] 174)).alloc (.cells #[.slice none 0 0] 84)).alloc (.cells #[.int .i64 0] 3)) := ((BlkIs.new _ _ _).alloc _).alloc _
  have k1 : BlkIs #[.slice none 0 0] 84 (w.heap.size + 1) (((w.alloc (.cells #[.pointer (some ⟨C, 0, none⟩)] 174)).alloc (.cells #[.slice none 0 0] 84)).alloc (.cells #[.int .i64 0] 3)) := by
    have := (BlkIs.new #[.slice none 0 0] 84 (w.alloc (.cells #[.pointer (some ⟨C, 0, none⟩)] 174))).alloc (.cells #[.int .i64 0] 3)
    rw [World.size_alloc] at this
    exact this
  have k2 : BlkIs #[.int .i64 0] 3 (w.heap.size + 1 + 1) (((w.alloc (.cells #[.pointer (some ⟨C, 0, none⟩)] 174)).alloc (.cells #[.slice none 0 0] 84)).alloc (.cells #[.int .i64 0] 3)) := by
    have := BlkIs.new #[.int .i64 0] 3 ((w.alloc (.cells #[.pointer (some ⟨C, 0, none⟩)] 174)).alloc (.cells #[.slice none 0 0] 84))
    rw [World.size_alloc, World.size_alloc] at this
    exact this
  have a0 : (((w.alloc (.cells #[.pointer (some ⟨C, 0, none⟩)] 174)).alloc (.cells #[.slice none 0 0] 84)).alloc (.cells #[.int .i64 0] 3)).cell? ⟨C, 0, none⟩ = some (.slice (some ⟨g, 0, none⟩) L.length c) := (h.below HB.out).blk.cell 0
  have a1 := k0.cell 0
  have H3 : Hid (RecsAt L C g c (((w.alloc (.cells #[.pointer (some ⟨C, 0, none⟩)] 174)).alloc (.cells #[.slice none 0 0] 84)).alloc (.cells #[.int .i64 0] 3))) := Lib.hid (h.below HB.out)
  have HLT : Hid (g < w.heap.size) := Lib.hid h.lt
  have K0 := Lib.hid k0
  have K1 := Lib.hid k1
  have K2 := Lib.hid k2
  clear h k0 k1 k2
  gi_wp2
  generalize ((w.alloc (.cells #[.pointer (some ⟨C, 0, none⟩)] 174)).alloc (.cells #[.slice none 0 0] 84)).alloc (.cells #[.int .i64 0] 3) = W1 at *
  obtain ⟨B, hB⟩ : ∃ B, w.heap.size = B := ⟨_, rfl⟩
  rw [hB] at HB hsz a1 HLT K0 K1 K2 ⊢
  have HBe := Lib.hid hB
  obtain ⟨N, hN⟩ : ∃ N, L.length = N := ⟨_, rfl⟩
  have hN3 : N ≤ 3 := by omega
  have HR1 : Hid (∀ i, i < N → W1.cell? ⟨g, i * 3, none⟩ = some (.int .u64 (L.getD i (0, 0, 0)).1) ∧ W1.cell? ⟨g, i * 3 + 1, none⟩ = some (.int .i64 (L.getD i (0, 0, 0)).2.1) ∧ W1.cell? ⟨g, i * 3 + 2, none⟩ = some (.int .i64 (L.getD i (0, 0, 0)).2.2)) := Lib.hid (fun i hi => by
    have h1 : L[i]? = some (L.getD i (0, 0, 0)) := by
      rw [List.getD_eq_getElem?_getD, List.getElem?_eq_getElem (by omega)]; rfl
    exact H3.out.row i _ h1)
  have HC1 : Hid (N ≤ c ∧ c ≤ 9223372036854775807) := Lib.hid ⟨by rw [← hN]; exact H3.out.cap1, H3.out.cap2⟩
  have HSQ : Hid (SeqStopsK Fence.wide 7 Tryz.prog 219 #[.pointer (some ⟨B + 1 + 1 + 1, 0, none⟩)] (bkEnc L) (KpS (B + 1 + 1 + 1) g) (fun ys => ys = dn N N) (fun _ => True) N (W1.alloc (.cells #[.slice (some ⟨g, 0, none⟩) N c] 200))) := Lib.hid (by
    have hb := BlkIs.new #[.slice (some ⟨g, 0, none⟩) N c] 200 W1
    rw [hsz] at hb
    have hg1 : g < W1.heap.size := by have := HLT.out; omega
    have := backS_stops Fence.wide 7 trivial rfl (by decide) (B + 1 + 1 + 1) g c L (by omega) (W1.alloc (.cells #[.slice (some ⟨g, 0, none⟩) N c] 200)) hb.lt (Nat.lt_of_lt_of_le hg1 (bel_alloc W1 _).size) (by rw [hN]; exact hb.cell 0) (by rw [hN]; exact HC1.out.1) HC1.out.2 (fun i hi => by
      obtain ⟨x0, x1, x2⟩ := HR1.out i (by omega)
      exact ⟨((bel_alloc W1 _).cell (p := ⟨g, i * 3, none⟩) hg1).trans x0, ((bel_alloc W1 _).cell (p := ⟨g, i * 3 + 1, none⟩) hg1).trans x1, ((bel_alloc W1 _).cell (p := ⟨g, i * 3 + 2, none⟩) hg1).trans x2⟩)
    rw [hN] at this
    exact this)
  rw [hN] at a0 ⊢
  clear hB hN hL H3 HR1
  refine ⟨trivial, ?_⟩
  refine (backS_in Fence.wide _ trivial rfl _ _ _ _).mono ?_
  rintro e w2 ⟨rfl, rfl⟩
  have HI0 : Hid (LoseI B C w [] (W1.alloc (.cells #[.slice (some ⟨g, 0, none⟩) N c] 200))) := Lib.hid ⟨0, Nat.le_refl _, K2.out.alloc _, K0.out.alloc _, K1.out.alloc _, HB.out.trans ((bel_alloc W1 _).mono (by omega)), by rw [World.size_alloc]; omega⟩
  have hsz2 : (W1.alloc (.cells #[.slice (some ⟨g, 0, none⟩) N c] 200)).heap.size = B + 1 + 1 + 1 + 1 := by rw [World.size_alloc, hsz]
  rw [hsz]
  generalize W1.alloc (.cells #[.slice (some ⟨g, 0, none⟩) N c] 200) = W2 at *
  clear a0 a1 hsz K0 K1 K2 HB
  gi_wp2
  refine wpIn_rangeFunc_ownH rfl (by decide) (gf := 219) (lb := #[.pointer (some ⟨B + 1 + 1 + 1, 0, none⟩)]) rfl trivial (enters_of Tryz.func219 (by kernel_rfl) rfl)
    HSQ.out KpS.trans (fun W l o o' hl ho hc hw => ?kb) (Below.refl _ _) (fun _ => rfl)
    (LoseI B C w) (fun _ _ _ => False) (fun s X Y row hs hg hr => ?own) (fun _ _ _ _ _ hs _ _ => hs) HI0.out
    (fun x a' W => ∃ b6, B + 1 + 1 + 1 < b6 ∧ BlkIs #[.int .u64 (L.getD x (0, 0, 0)).1, .int .i64 (L.getD x (0, 0, 0)).2.1, .int .i64 (L.getD x (0, 0, 0)).2.2] 218 b6 W ∧ a' = loseAct C B g N c b6 x (L.getD x (0, 0, 0)))
    (fun x a' _ X Y row hs hg hr => by obtain ⟨b6, h1, h2, h3⟩ := hs; exact ⟨b6, h1, h2.own hg (fun r e => (hr r e).2), h3⟩)
    ?assign ?body ?done ?stop
  case kb =>
    have hl2 : l < W.heap.size := (Array.getElem?_eq_some_iff.1 ho).1
    have hg0 := HLT.out
    rw [hsz2] at hl
    exact ⟨(grownBy_putObj' W l o').block (B + 1 + 1 + 1) (by omega) (fun e => by cases e; omega), (grownBy_putObj' W l o').block g (by omega) (fun e => by cases e; omega)⟩
  case own =>
    obtain ⟨b, hb, h1, h2, h3, h4, h5⟩ := hs
    refine ⟨b, hb, h1.own hg (fun r e => (hr r e).2), h2.own hg (fun r e => (hr r e).2), h3.own hg (fun r e => (hr r e).2), ?_, Nat.lt_of_lt_of_le h5 hg.size⟩
    rw [hsz2] at hr
    exact h4.grown hg (by have := h1.lt; omega) (fun r e => by have := (hr r e).1; omega)
  case assign =>
    rintro l pre x W K ⟨b, hb, h1, h2, h3, h4, h5⟩ hK
    simp only [bkEnc]
    generalize L.getD x (0, 0, 0) = rc at hK ⊢
    obtain ⟨n, t, st⟩ := rc
    simp only at hK ⊢
    have HK := Lib.hid hK
    clear hK
    gi_wp2
    have hg0 := HLT.out
    exact HK.out _ _ ((KeepsOthers.alloc _ _).from _) ⟨(bel_alloc W _).block _ h5, (bel_alloc W _).block _ (by omega)⟩ ⟨b, hb, h1.alloc _, h2.alloc _, h3.alloc _, h4.trans ((bel_alloc W _).mono (by omega)), by rw [World.size_alloc]; omega⟩ ⟨W.heap.size, h5, BlkIs.new _ _ _, rfl⟩
  case body =>
    rintro l pre x a' W hl ⟨r, hr⟩ ⟨b, hb, h1, h2, h3, h4, h5⟩ ⟨b6, hb6, hx6, rfl⟩ hlt
    unfold loseAct
    generalize L.getD x (0, 0, 0) = rc at *
    obtain ⟨n, t, st⟩ := rc
    simp only at hx6 ⊢
    have c2 : W.cell? ⟨b6, 2, none⟩ = some (.int .i64 st) := hx6.cell 2
    have d0 : W.cell? ⟨B + 1 + 1, 0, none⟩ = some (.int .i64 (b : Int)) := h1.cell 0
    have df := h1.free 0
    have hb3 : (b : Int) < 3 := by omega
    have HJ : Hid (KeepsFrom W2.heap.size W (W.setCell ⟨B + 1 + 1, 0, none⟩ (.int .i64 ((b : Int) + 1))) ∧ KpS (B + 1 + 1 + 1) g W (W.setCell ⟨B + 1 + 1, 0, none⟩ (.int .i64 ((b : Int) + 1))) ∧ LoseI B C w (pre ++ [x]) (W.setCell ⟨B + 1 + 1, 0, none⟩ (.int .i64 ((b : Int) + 1)))) := Lib.hid (by
      have hg0 := HLT.out
      refine ⟨(KeepsOthers.setCell W _ _).from _, ⟨Below.heap_setCell _ _ _ _ (by simp), Below.heap_setCell _ _ _ _ (by simp; omega)⟩, b + 1, by simp; omega, h1.set 0 _, h2.far (show B ≠ B + 1 + 1 by omega) _, h3.far (show B + 1 ≠ B + 1 + 1 by omega) _, ?_, by simpa using h5⟩
      have := ((Kept.refl [B + 1 + 1] W).setCell (p := ⟨B + 1 + 1, 0, none⟩) (.inl (by simp)) (.int .i64 ((b : Int) + 1))).below (B := B) (by omega) (by intro x hx; simp at hx; omega)
      exact h4.trans this)
    have HJ0 : Hid (LoseI B C w (pre ++ [x]) W) := Lib.hid ⟨b, by simp; omega, h1, h2, h3, h4, h5⟩
    clear h1 h2 h3 h4 h5 hx6 hr hl
    by_cases hst : st = 1
    · subst hst
      gi_wp2
      exact HJ.out
    · by_cases hs0 : st = 0
      · subst hs0
        gi_wp2
        exact ⟨KeepsFrom.refl _ _, KpS.refl _ _ _, HJ0.out⟩
      · gi_wp2
        exact ⟨KeepsFrom.refl _ _, KpS.refl _ _ _, HJ0.out⟩
  case done =>
    rintro D ys W hD rfl ⟨b, hb, h1, h2, h3, h4, h5⟩ hK
    have c3 : W.cell? ⟨B + 1, 0, none⟩ = some (.slice none 0 0) := h3.cell 0
    gi_wp2
    refine ⟨trivial, ?_⟩
    refine ((callsIn_wide (n := 7)).2 (reverseU_nil W)).mono ?_
    rintro e w5 ⟨rfl, rfl⟩
    gi_wp2
    refine ⟨by simp, .inl ⟨_, _, rfl, run_takeDeferred hK, ?_⟩⟩
    refine ⟨_, results_tmp rfl _ _ _, rfl, ?_⟩
    rw [HBe.out]
    exact h4.trans (belowK_b (n₀ := B) (w := W2) (by omega) w5 D _ _ hD hK rfl rfl)
  case stop =>
    rintro D c pre W _ _ h _
    exact h.elim
end Go.Proofs.YtnhlachoimlhhaaGreatDoor

namespace Go.Proofs.YtnhlachoimlhhaaGreatDoor
open Go.ChangeShapes Go.WideShapes Go.ChangeAt Go.RowKit
set_option linter.unusedVariables false
set_option linter.unusedSimpArgs false

theorem ownsRow_keptC {T sz n B : Nat} {v : Value} {xs : List Value} {S : List Nat} {w w' : World} (h : w.ownsRow B T sz v n xs) (k : Kept S w w') (hn : ∀ g, v.ownBlock = some g → g ∉ S) : w'.ownsRow B T sz v n xs := by
  refine ⟨h.1, ?_⟩
  rcases h.2 with hv | ⟨g, cap, cur, rfl, hb, hg, rest⟩
  · exact .inl hv
  · exact .inr ⟨g, cap, cur, rfl, hb, (k.block g (Array.getElem?_eq_some_iff.1 hg).1 (hn g rfl)).trans hg, rest⟩
def hrL : Nat → List Rec
  | 0 => [(5, 0, 0), (6, 10, 0), (7, 20, 0)]
  | 1 => [(5, 0, 1), (6, 10, 0), (7, 20, 0)]
  | 2 => [(5, 0, 1), (6, 10, 0), (7, 20, 0)]
  | _ => [(5, 0, 1), (6, 10, 0), (7, 20, 1)]
def hrG : Nat → List Nat
  | 0 => []
  | 1 => [5]
  | 2 => [5]
  | _ => [5, 7]
def hrM : Nat → Int
  | 0 => 0
  | 1 => 0
  | 2 => 0
  | _ => 1
def hrR : Nat → Int
  | 0 => -1
  | 1 => 120
  | 2 => 120
  | _ => 100
theorem hrL_len (k : Nat) : (hrL k).length = 3 := by rcases k with _ | _ | _ | k <;> rfl
/-- Hear's loop, before its round k. -/
structure HearI (k : Nat) (C g c H S0 B : Nat) (vT : Value) (w5 wr : World) : Prop where
  recs : RecsAt (hrL k) C g c wr
  heard : ∃ vG, HeardAt (hrG k) vG (hrM k) (hrR k) H wr ∧ ∀ q, vG.ownBlock = some q → S0 ≤ q
  told : wr.ownsRow B 3 1 vT 3 (List.map i64V [1, 3, 0])
  kept : Kept [H, g] w5 wr
theorem HeardAt.drewN {gs : List Nat} {vG : Value} {m r : Int} {H : Nat} {w : World} (h : HeardAt gs vG m r H w) (k : Nat) : HeardAt gs vG m r H (w.drewN k) :=
  ⟨h.blk.drewN k, ownsRow_keptC h.row ((Kept.refl [] w).drewN k) (by simp), h.ne⟩
theorem HearI.drew {k C g c H S0 B : Nat} {vT : Value} {w5 wr : World} (h : HearI k C g c H S0 B vT w5 wr) (n : Nat) : HearI k C g c H S0 B vT w5 (wr.drewN n) := by
  obtain ⟨vG, h1, h2⟩ := h.heard
  exact ⟨h.recs.below (bel_drewN wr n), ⟨vG, h1.drewN n, h2⟩, ownsRow_keptC h.told ((Kept.refl [] wr).drewN n) (by simp), h.kept.drewN n⟩
/-- What take leaves behind. -/
theorem HearI.step {k k2 C g c H S0 B j n : Nat} {t : Int} {vT vG : Value} {w5 wr W w' : World} {q cq : Nat} (h : HearI k C g c H S0 B vT w5 wr) (hS : w5.heap.size = S0) (hB : H < B ∧ g < B ∧ C ≠ H ∧ C < S0 ∧ g ≠ H ∧ g < S0) (hvG : ∀ q, vG.ownBlock = some q → S0 ≤ q) (hj : (hrL k)[j]? = some (n, t, 0)) (hl2 : hrL k2 = (hrL k).set j (n, t, 1))
    (hw : w' = W.setCell ⟨g, j * 3 + 2, none⟩ (.int .i64 1)) (hh : HeardAt (hrG k2) (.slice (some ⟨q, 0, none⟩) (hrG k2).length cq) (hrM k2) (hrR k2) H w') (hk : Kept (H :: own vG) wr W) (hq : vG.ownBlock = some q ∨ wr.heap.size ≤ q) (hTS : ∀ b, vT.ownBlock = some b → B ≤ b ∧ b < S0) : HearI k2 C g c H S0 B vT w5 w' := by
  have hsz := h.kept.size
  have hCn : C ∉ H :: own vG := by
    intro hm
    rcases List.mem_cons.1 hm with e | e
    · exact hB.2.2.1 e
    · cases hv : vG.ownBlock with
      | none => rw [own, hv] at e; cases e
      | some x => rw [own, hv] at e; simp at e; have := hvG x hv; omega
  have hgn : g ∉ H :: own vG := by
    intro hm
    rcases List.mem_cons.1 hm with e | e
    · exact hB.2.2.2.2.1 e
    · cases hv : vG.ownBlock with
      | none => rw [own, hv] at e; cases e
      | some x => rw [own, hv] at e; simp at e; have := hvG x hv; omega
  refine ⟨?_, ⟨_, hh, fun q2 h2 => ?_⟩, ?_, ?_⟩
  · rw [hw, hl2]
    exact (h.recs.kept hk hCn hgn).setSt j n t 0 1 hj
  · have : q = q2 := by simpa [Value.ownBlock] using h2
    subst this
    rcases hq with e | e
    · exact hvG _ e
    · omega
  · rw [hw]
    refine ownsRow_keptC (ownsRow_keptC h.told hk (fun b hb hm => ?_)) ((Kept.refl [g] W).setCell (.inl (by simp)) _) (fun b hb => by have := hTS b hb; simp; omega)
    have := hTS b hb
    rcases List.mem_cons.1 hm with e | e
    · omega
    · cases hv : vG.ownBlock with
      | none => rw [own, hv] at e; cases e
      | some x => rw [own, hv] at e; simp at e; have := hvG x hv; omega
  · rw [hw]
    refine (h.kept.trans hk (fun x hx => ?_)).setCell (.inl (by simp)) _
    rcases List.mem_cons.1 hx with e | e
    · left; simp [e]
    · right
      cases hv : vG.ownBlock with
      | none => rw [own, hv] at e; cases e
      | some x2 => rw [own, hv] at e; simp at e; have := hvG x2 hv; omega
set_option maxRecDepth 100000 in
set_option maxHeartbeats 4000000 in
theorem sentHear_three (C g c : Nat) (v : Value) (w : World) (h : RecsAt (hrL 0) C g c w) (hv : C2At w v [(1, 1), (3, 1), (0, 1)]) :
    Calls Tryz.prog 135 #[.pointer (some ⟨C, 0, none⟩), .int .u64 7, v, .int .i64 120] w fun e w' => ∃ q cG, e = .returned (.agg (heardCells (.slice (some ⟨q, 0, none⟩) 2 cG) 1 100)) ∧ RecsAt (hrL 3) C g c w' ∧ Kept [g] w w' := by
  have kW : Kept [] w ((w.alloc (.cells (heardCells (.slice none 0 0) 0 0) 86)).alloc (.cells (heardCells (.slice none 0 0) 0 (-1)) 86)) := ((Kept.refl [] w).alloc _).alloc _
  have b8 : BlkIs (heardCells (.slice none 0 0) 0 0) 86 w.heap.size ((w.alloc (.cells (heardCells (.slice none 0 0) 0 0) 86)).alloc (.cells (heardCells (.slice none 0 0) 0 (-1)) 86)) := (BlkIs.new _ _ _).alloc _
  have b9 : BlkIs (heardCells (.slice none 0 0) 0 (-1)) 86 (w.heap.size + 1) ((w.alloc (.cells (heardCells (.slice none 0 0) 0 0) 86)).alloc (.cells (heardCells (.slice none 0 0) 0 (-1)) 86)) := by
    have := BlkIs.new (heardCells (.slice none 0 0) 0 (-1)) 86 (w.alloc (.cells (heardCells (.slice none 0 0) 0 0) 86))
    rw [World.size_alloc] at this
    exact this
  have HV := Lib.hid (hv.below kW.below0)
  have H0 := Lib.hid (h.below kW.below0)
  have HLT : Hid (g < w.heap.size ∧ C < w.heap.size ∧ g ≠ C) := Lib.hid ⟨h.lt, h.blk.lt, h.ne⟩
  obtain ⟨p, cap, rfl, _⟩ := hv.at_
  unfold heardCells at b8 b9 kW HV H0
  have K8 := Lib.hid b8
  have K9 := Lib.hid b9
  have KW := Lib.hid kW
  clear h hv b8 b9 kW
  go_enter Tryz.func135, Tryz.ntmps135
  go_upto_region 2 with fail
  generalize (w.alloc (Obj.cells #[Value.slice none 0 0, .slice none 0 0, .slice none 0 0, .int .i64 0, .int .i64 0] 86)).alloc (Obj.cells #[Value.slice none 0 0, .slice none 0 0, .slice none 0 0, .int .i64 0, .int .i64 (-1)] 86) = W1 at *
  obtain ⟨A, hA⟩ : ∃ A, w.heap.size = A := ⟨_, rfl⟩
  have HA := Lib.hid hA
  rw [hA] at K8 K9 HLT ⊢
  clear hA
  have HM : Hid (Calls Tryz.prog 167 #[.slice p 3 cap] W1 fun e w' => e = .returned (.bool true) ∧ Below W1.heap.size W1 w') := Lib.hid (vecMay_any _ _ W1 HV.out)
  have HS : Hid (∀ W, Below W1.heap.size W1 W → Calls Tryz.prog 168 #[.slice p 3 cap] W fun e w' => ∃ v', e = .returned v' ∧ I64Own W.heap.size v' [1, 3, 0] W w') := Lib.hid (fun W hb => vecSpread_any _ _ W (HV.out.below hb))
  have HDf : Hid ((∀ W, Calls Tryz.prog 155 #[.int .u64 7, .int .u64 5] W fun e w' => e = .returned (.int .i64 2) ∧ W = w') ∧ (∀ W, Calls Tryz.prog 155 #[.int .u64 7, .int .u64 6] W fun e w' => e = .returned (.int .i64 1) ∧ W = w') ∧ (∀ W, Calls Tryz.prog 155 #[.int .u64 7, .int .u64 7] W fun e w' => e = .returned (.int .i64 0) ∧ W = w')) := Lib.hid ⟨fun W => seqDiff_any 7 5 (by decide) (by decide) W, fun W => seqDiff_any 7 6 (by decide) (by decide) W, fun W => seqDiff_any 7 7 (by decide) (by decide) W⟩
  go_upto_region 5 with (first
    | (go_at_call 167; (with_reducible refine HM.out.mono ?_); rintro e W2 ⟨rfl, hb2⟩)
    | (go_at_call 168; (with_reducible refine (HS.out _ hb2).mono ?_); rintro e W3 ⟨vT, rfl, hT⟩))
  obtain ⟨q0, cT, hqv, hq1, hq2⟩ : ∃ q0 cT, vT = .slice (some ⟨q0, 0, none⟩) 3 cT ∧ W2.heap.size ≤ q0 ∧ q0 < W3.heap.size := hT.1.form (by decide)
  subst hqv
  have HI0 : Hid (HearI 0 C g c (A + 1) W3.heap.size W2.heap.size (.slice (some ⟨q0, 0, none⟩) 3 cT) W3 W3) := Lib.hid
    ⟨(H0.out.below hb2).below hT.2.1, ⟨.slice none 0 0, ⟨(K9.out.below hb2).below hT.2.1, World.ownsRow_nil _ _ _ _, fun q hq => by cases hq⟩, fun q hq => by cases hq⟩, hT.1, Kept.refl _ _⟩
  have HK8 : Hid (BlkIs #[Value.slice none 0 0, .slice none 0 0, .slice none 0 0, .int .i64 0, .int .i64 0] 86 A W3) := Lib.hid ((K8.out.below hb2).below hT.2.1)
  have HKW : Hid (Kept [] w W3) := Lib.hid ((KW.out.trans' (Kept.of_below [] hb2)).trans' (Kept.of_below [] hT.2.1))
  have HSZ : Hid (A + 1 < W2.heap.size ∧ W2.heap.size ≤ W3.heap.size ∧ q0 < W3.heap.size ∧ W2.heap.size ≤ q0) := Lib.hid ⟨(K9.out.below hb2).lt, hT.2.1.size, hq2, hq1⟩
  have c0 : W3.cell? ⟨C, 0, none⟩ = some (.slice (some ⟨g, 0, none⟩) 3 c) := HI0.out.recs.blk.cell 0
  clear hT hb2 hq1 hq2
  go_upto_region 6 with fail
  have HTold0 : ∀ W, W.ownsRow W2.heap.size 3 1 (.slice (some ⟨q0, 0, none⟩) 3 cT) 3 (List.map i64V [1, 3, 0]) → I64At W (.slice (some ⟨q0, 0, none⟩) 3 cT) [1, 3, 0] := fun W hW => by
    refine ⟨?_, by decide, fun i => ?_⟩
    · rcases hW.2 with ⟨hn, h0⟩ | ⟨g', cap', cur, hv, _, hg, hcap, hcm, _, ht⟩
      · cases h0
      · injection hv with e1 e2 e3
        injection e1 with e1
        injection e1 with e1
        subst e1 e3
        have hlt : q0 < W.heap.size := (Array.getElem?_eq_some_iff.1 hg).1
        refine ⟨some ⟨q0, 0, none⟩, cT, rfl, hcap, by unfold maxLen at hcm; omega, fun i hi => ⟨q0, 0, rfl, hlt, ?_⟩⟩
        rw [cell_of_row W q0 (0 + i) cur _ _ hg, Nat.zero_add, ← Array.getElem?_toList]
        have h2 : (List.map i64V [1, 3, 0])[i]? = some (.int .i64 (([1, 3, 0] : List Int).getD i 0)) := by
          rw [List.getElem?_map, List.getElem?_eq_getElem hi, List.getD_eq_getElem?_getD, List.getElem?_eq_getElem hi]; rfl
        rw [← ht, List.getElem?_take_of_lt (by simpa using hi)] at h2
        exact h2
    · rcases i with _ | _ | _ | i
      · decide
      · decide
      · decide
      · exact (by decide : -9223372036854775808 ≤ (0 : Int) ∧ (0 : Int) ≤ 9223372036854775807)
  have HTold := HTold0
  clear HTold0 HV H0 K8 K9 KW HM HS
  go_loopw [28] (fun i wr => ∃ k : Nat, k ≤ 3 ∧ i = .int .i64 (k : Int) ∧ HearI k C g c (A + 1) W3.heap.size W2.heap.size (.slice (some ⟨q0, 0, none⟩) 3 cT) W3 wr) (fun i _ => 3 - (intOf i).toNat)
  case atStart => exact ⟨0, by decide, rfl, HI0.out⟩
  case round =>
    obtain ⟨k, hk, rfl, hi⟩ := hrel
    obtain rfl | rfl | rfl | rfl : k = 0 ∨ k = 1 ∨ k = 2 ∨ k = 3 := by omega
    · clear hk HI0 c0
      have hr := hi.recs
      have x0 : wr.cell? ⟨C, 0, none⟩ = some (.slice (some ⟨g, 0, none⟩) 3 c) := hr.blk.cell 0
      have x1 : wr.cell? ⟨g, 0, none⟩ = some (.int .u64 5) := (hr.row 0 (5, 0, 0) rfl).1
      have HI := Lib.hid hi
      have HTV : Hid (I64At (wr.drewN 1) (.slice (some ⟨q0, 0, none⟩) 3 cT) [1, 3, 0]) := Lib.hid (HTold _ (hi.drew 1).told)
      have HSO : Hid (Calls Tryz.prog 170 #[.int .u64 5, .int .u64 7, .slice (some ⟨q0, 0, none⟩) 3 cT] (wr.drewN 1) fun e w' => e = .returned (.int .i64 0) ∧ w' = wr.drewN 1) := Lib.hid (sentStateOf_at 5 7 2 HDf.out.1 _ [1, 3, 0] (by decide) (wr.drewN 1) HTV.out)
      clear hr hi
      go_wp2
      obtain ⟨vG, hh, hvG⟩ := (HI.out.drew 1).heard
      have HTK : Hid (Calls Tryz.prog 169 #[.pointer (some ⟨A + 1, 0, none⟩), .pointer (some ⟨g, 0, none⟩), .int .i64 0, .int .i64 120] (wr.drewN 1) fun e w' => e = .returned (.tuple #[]) ∧ HearI 1 C g c (A + 1) W3.heap.size W2.heap.size (.slice (some ⟨q0, 0, none⟩) 3 cT) W3 w') := Lib.hid (by
        have hr := (HI.out.drew 1).recs
        have hrow := hr.row 0 (5, 0, 0) rfl
        have hlt := HLT.out
        have hsz := HSZ.out
        refine (heardTake_got (hrG 0) (by decide) vG (hrM 0) (hrR 0) (by decide) (by decide) 0 (by decide) 5 0 120 (by decide) (by decide) (by decide) (A + 1) g 0 (wr.drewN 1) hh hrow.1 hrow.2.1 hrow.2.2 (hr.free _) (by omega) (fun q hq => by have := hvG q hq; omega)).mono ?_
        rintro e w' ⟨q, cq, W, rfl, hw, h5, h6, h7⟩
        exact ⟨rfl, HearI.step (k2 := 1) (j := 0) (n := 5) (t := 0) (HI.out.drew 1) rfl ⟨by omega, by omega, by omega, by omega, by omega, by omega⟩ hvG rfl rfl hw h5 h6 h7 (fun b hb => by
          have : q0 = b := by simpa [Value.ownBlock] using hb
          omega)⟩)
      clear hh hvG
      go_region_with (first
        | (go_at_call 170; (refine HSO.out.mono ?_); rintro e w5 ⟨rfl, rfl⟩)
        | (go_at_call 169; (refine HTK.out.mono ?_); rintro e w6 ⟨rfl, hi6⟩))
      all_goals (
        go_wp2
        go_roundw
        case rel => exact ⟨1, by decide, rfl, hi6⟩
        case measure => simp [intOf])
    · clear hk HI0 c0
      have hr := hi.recs
      have x0 : wr.cell? ⟨C, 0, none⟩ = some (.slice (some ⟨g, 0, none⟩) 3 c) := hr.blk.cell 0
      have x1 : wr.cell? ⟨g, 3, none⟩ = some (.int .u64 6) := (hr.row 1 (6, 10, 0) rfl).1
      have HI := Lib.hid hi
      have HTV : Hid (I64At (wr.drewN 1) (.slice (some ⟨q0, 0, none⟩) 3 cT) [1, 3, 0]) := Lib.hid (HTold _ (hi.drew 1).told)
      have HSO : Hid (Calls Tryz.prog 170 #[.int .u64 6, .int .u64 7, .slice (some ⟨q0, 0, none⟩) 3 cT] (wr.drewN 1) fun e w' => e = .returned (.int .i64 3) ∧ w' = wr.drewN 1) := Lib.hid (sentStateOf_at 6 7 1 HDf.out.2.1 _ [1, 3, 0] (by decide) (wr.drewN 1) HTV.out)
      clear hr hi
      go_wp2
      have HTK : Hid (Calls Tryz.prog 169 #[.pointer (some ⟨A + 1, 0, none⟩), .pointer (some ⟨g, 3, none⟩), .int .i64 3, .int .i64 120] (wr.drewN 1) fun e w' => e = .returned (.tuple #[]) ∧ w' = wr.drewN 1) := Lib.hid (heardTake_none (A + 1) g 3 120 (wr.drewN 1))
      have HI2 : Hid (HearI 2 C g c (A + 1) W3.heap.size W2.heap.size (.slice (some ⟨q0, 0, none⟩) 3 cT) W3 (wr.drewN 1)) := Lib.hid ⟨(HI.out.drew 1).recs, (HI.out.drew 1).heard, (HI.out.drew 1).told, (HI.out.drew 1).kept⟩
      go_region_with (first
        | (go_at_call 170; (refine HSO.out.mono ?_); rintro e w5 ⟨rfl, rfl⟩)
        | (go_at_call 169; (refine HTK.out.mono ?_); rintro e w6 ⟨rfl, rfl⟩))
      all_goals (
        go_wp2
        go_roundw
        case rel => exact ⟨2, by decide, rfl, HI2.out⟩
        case measure => simp [intOf])
    · clear hk HI0 c0
      have hr := hi.recs
      have x0 : wr.cell? ⟨C, 0, none⟩ = some (.slice (some ⟨g, 0, none⟩) 3 c) := hr.blk.cell 0
      have x1 : wr.cell? ⟨g, 6, none⟩ = some (.int .u64 7) := (hr.row 2 (7, 20, 0) rfl).1
      have HI := Lib.hid hi
      have HTV : Hid (I64At (wr.drewN 1) (.slice (some ⟨q0, 0, none⟩) 3 cT) [1, 3, 0]) := Lib.hid (HTold _ (hi.drew 1).told)
      have HSO : Hid (Calls Tryz.prog 170 #[.int .u64 7, .int .u64 7, .slice (some ⟨q0, 0, none⟩) 3 cT] (wr.drewN 1) fun e w' => e = .returned (.int .i64 1) ∧ w' = wr.drewN 1) := Lib.hid (sentStateOf_at 7 7 0 HDf.out.2.2 _ [1, 3, 0] (by decide) (wr.drewN 1) HTV.out)
      clear hr hi
      go_wp2
      obtain ⟨vG, hh, hvG⟩ := (HI.out.drew 1).heard
      have HTK : Hid (Calls Tryz.prog 169 #[.pointer (some ⟨A + 1, 0, none⟩), .pointer (some ⟨g, 6, none⟩), .int .i64 1, .int .i64 120] (wr.drewN 1) fun e w' => e = .returned (.tuple #[]) ∧ HearI 3 C g c (A + 1) W3.heap.size W2.heap.size (.slice (some ⟨q0, 0, none⟩) 3 cT) W3 w') := Lib.hid (by
        have hr := (HI.out.drew 1).recs
        have hrow := hr.row 2 (7, 20, 0) rfl
        have hlt := HLT.out
        have hsz := HSZ.out
        refine (heardTake_got (hrG 2) (by decide) vG (hrM 2) (hrR 2) (by decide) (by decide) 1 (by decide) 7 20 120 (by decide) (by decide) (by decide) (A + 1) g 6 (wr.drewN 1) hh hrow.1 hrow.2.1 hrow.2.2 (hr.free _) (by omega) (fun q hq => by have := hvG q hq; omega)).mono ?_
        rintro e w' ⟨q, cq, W, rfl, hw, h5, h6, h7⟩
        exact ⟨rfl, HearI.step (k2 := 3) (j := 2) (n := 7) (t := 20) (HI.out.drew 1) rfl ⟨by omega, by omega, by omega, by omega, by omega, by omega⟩ hvG rfl rfl hw h5 h6 h7 (fun b hb => by
          have : q0 = b := by simpa [Value.ownBlock] using hb
          omega)⟩)
      clear hh hvG
      go_region_with (first
        | (go_at_call 170; (refine HSO.out.mono ?_); rintro e w5 ⟨rfl, rfl⟩)
        | (go_at_call 169; (refine HTK.out.mono ?_); rintro e w6 ⟨rfl, hi6⟩))
      all_goals (
        go_wp2
        go_roundw
        case rel => exact ⟨3, by decide, rfl, hi6⟩
        case measure => simp [intOf])
    · clear hk HI0 c0
      obtain ⟨vG, hh, hvG⟩ := hi.heard
      obtain ⟨q, cG, rfl, _, _⟩ : ∃ q cG, vG = .slice (some ⟨q, 0, none⟩) 2 cG ∧ 0 ≤ q ∧ q < wr.heap.size := hh.row.form (by decide)
      have hlt := HLT.out
      have kA : BlkIs #[Value.slice none 0 0, .slice none 0 0, .slice none 0 0, .int .i64 0, .int .i64 0] 86 A wr := HK8.out.kept hi.kept (by simp; omega)
      have HE : Hid (RecsAt (hrL 3) C g c wr ∧ Kept [A + 1, g] W3 wr) := Lib.hid ⟨hi.recs, hi.kept⟩
      have HKA := Lib.hid kA
      have HKH : Hid (BlkIs #[Value.slice (some ⟨q, 0, none⟩) 2 cG, .slice none 0 0, .slice none 0 0, .int .i64 1, .int .i64 100] 86 (A + 1) wr) := Lib.hid hh.blk
      have HL := Lib.hid (sentLose_few (hrL 3) (by decide) C g c wr hi.recs)
      clear hi hh kA hlt hvG HTold HDf
      go_upto_region 11 with (go_at_call 171; (with_reducible refine HL.out.mono ?_); rintro e W6 ⟨rfl, hb6⟩; have kH6 := HKH.out.below hb6; have z2 : W6.cell? ⟨A + 1, 2, none⟩ = some (.slice none 0 0) := BlkIs.cell kH6 2; have zf := BlkIs.free kH6 2)
      have kA6 := HKA.out.below hb6
      have k10 := kH6.set 2 (.slice none 0 0)
      have H11 : Hid (RecsAt (hrL 3) C g c (W6.setCell ⟨A + 1, 2, none⟩ (.slice none 0 0)) ∧ Kept [A + 1, g] W3 (W6.setCell ⟨A + 1, 2, none⟩ (.slice none 0 0))) := Lib.hid ⟨(HE.out.1.below hb6).kept ((Kept.refl [A + 1] W6).setCell (.inl (by simp)) _) (by simp; have := HLT.out; omega) (by simp; have := HLT.out; omega), (HE.out.2.trans' (Kept.of_below _ hb6)).setCell (.inl (by simp)) _⟩
      have k11 := kA6.far (show A ≠ (⟨A + 1, 2, none⟩ : Addr).block by simp) (.slice none 0 0)
      generalize W6.setCell ⟨A + 1, 2, none⟩ (.slice none 0 0) = W7 at *
      have y0 : W7.cell? ⟨A + 1, 0, none⟩ = some (.slice (some ⟨q, 0, none⟩) 2 cG) := BlkIs.cell k10 0
      have y1 : W7.cell? ⟨A + 1, 1, none⟩ = some (.slice none 0 0) := BlkIs.cell k10 1
      have y2 : W7.cell? ⟨A + 1, 2, none⟩ = some (.slice none 0 0) := BlkIs.cell k10 2
      have y3 : W7.cell? ⟨A + 1, 3, none⟩ = some (.int .i64 1) := BlkIs.cell k10 3
      have y4 : W7.cell? ⟨A + 1, 4, none⟩ = some (.int .i64 100) := BlkIs.cell k10 4
      have v0 : W7.cell? ⟨A, 0, none⟩ = some (.slice none 0 0) := BlkIs.cell k11 0
      have v1 : W7.cell? ⟨A, 1, none⟩ = some (.slice none 0 0) := BlkIs.cell k11 1
      have v2 : W7.cell? ⟨A, 2, none⟩ = some (.slice none 0 0) := BlkIs.cell k11 2
      have v3 : W7.cell? ⟨A, 3, none⟩ = some (.int .i64 0) := BlkIs.cell k11 3
      have v4 : W7.cell? ⟨A, 4, none⟩ = some (.int .i64 0) := BlkIs.cell k11 4
      have vf := BlkIs.free k11
      have K11 := Lib.hid k11
      clear z2 zf kH6 kA6 k10 k11 hb6 HKA HKH HL
      go_wp2
      have kb := ((((K11.out.set 0 (.slice (some ⟨q, 0, none⟩) 2 cG)).set 1 (.slice none 0 0)).set 2 (.slice none 0 0)).set 3 (.int .i64 1)).set 4 (.int .i64 100)
      have kr := ((((((Kept.refl [A] W7).setCell (p := ⟨A, 0, none⟩) (.inl (by simp)) (.slice (some ⟨q, 0, none⟩) 2 cG)).setCell (p := ⟨A, 1, none⟩) (.inl (by simp)) (.slice none 0 0)).setCell (p := ⟨A, 2, none⟩) (.inl (by simp)) (.slice none 0 0)).setCell (p := ⟨A, 3, none⟩) (.inl (by simp)) (.int .i64 1)).setCell (p := ⟨A, 4, none⟩) (.inl (by simp)) (.int .i64 100))
      have hA := HA.out
      have hlt := HLT.out
      refine bodyPost_ret (results_cell_row Tryz.results135 _ _ A 86 (heardCells (.slice (some ⟨q, 0, none⟩) 2 cG) 1 100) (0, 0) _ rfl kb Tryz.underlying86 rfl (by kernel_rfl)) rfl ⟨q, cG, rfl, H11.out.1.kept kr (by simp; omega) (by simp; omega), ?_⟩
      have k1 : Kept [g] w W7 := (HKW.out.more (fun x hx => by cases hx)).trans H11.out.2 (fun x hx => by
        simp at hx
        rcases hx with rfl | rfl
        · right; omega
        · left; simp)
      exact k1.trans kr (fun x hx => by simp at hx; right; omega)
end Go.Proofs.YtnhlachoimlhhaaGreatDoor
