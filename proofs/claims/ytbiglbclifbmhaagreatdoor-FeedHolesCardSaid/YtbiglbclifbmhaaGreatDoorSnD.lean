/-
  Package sent: slices.Backward over the records; nothing is lost of few.
-/
import Derived.RangeFuncNested
import Derived.RangeFuncBound
import Derived.RangeFuncCalls
import Derived.RangeFuncLeaves
import Derived.RangeFuncBox
import Derived.Shelf.Abstract
import Derived.Shelf.RegionOpen
import Derived.OwnWalkIn
import Derived.TacticsInMore
import Derived.LoopNIn
import Derived.LoopIn
import Derived.RegionIn
import Derived.BigRegionIn
import Derived.Test.YtbiglbclifbmhaaGreatDoorSnM
namespace Go.Proofs.YtbiglbclifbmhaaGreatDoor
open Go.ChangeShapes Go.WideShapes Go.ChangeAt Go.RowKit Go.Shelf
attribute [local go_sem] Oper.semAt_some
set_option linter.unusedVariables false
set_option linter.unusedSimpArgs false

/-- N - 1, N - 2, ..: the first k of them. -/
def dn (N k : Nat) : List Nat := (List.range k).map fun j => N - 1 - j
theorem dn_succ (N k : Nat) : dn N (k + 1) = dn N k ++ [N - 1 - k] := by unfold dn; rw [List.range_succ, List.map_append]; rfl
theorem dn_len (N k : Nat) : (dn N k).length = k := by simp [dn]
/-- What a round of Backward must keep: the closure's box, the row. -/
def KpS (Bs g : Nat) (W W' : World) : Prop := W'.heap[Bs]? = W.heap[Bs]? ∧ W'.heap[g]? = W.heap[g]?
theorem KpS.refl (Bs g : Nat) (W : World) : KpS Bs g W W := ⟨rfl, rfl⟩
theorem KpS.trans {Bs g : Nat} {A B C : World} (h : KpS Bs g A B) (k : KpS Bs g B C) : KpS Bs g A C := ⟨k.1.trans h.1, k.2.trans h.2⟩
theorem KpS.cellB {Bs g : Nat} {A B : World} (h : KpS Bs g A B) (i : Nat) : B.cell? ⟨Bs, i, none⟩ = A.cell? ⟨Bs, i, none⟩ := by unfold World.cell?; rw [h.1]
theorem KpS.cellG {Bs g : Nat} {A B : World} (h : KpS Bs g A B) (i : Nat) : B.cell? ⟨g, i, none⟩ = A.cell? ⟨g, i, none⟩ := by unfold World.cell?; rw [h.2]
def bkEnc (L : List Rec) (x : Nat) : Array Value := #[.int .i64 (x : Int), .agg #[.int .u64 (L.getD x (0, 0, 0)).1, .int .i64 (L.getD x (0, 0, 0)).2.1, .int .i64 (L.getD x (0, 0, 0)).2.2]]
set_option maxRecDepth 100000 in
set_option maxHeartbeats 2000000 in
theorem backS1_in (F : Fence) (n : Nat) (hF : F.fn 111) (hro : F.round = none) (hn : 1 ≤ n) (l Bs g c : Nat) (L : List Rec) (hL : L.length ≤ 1000) (J Jx : List Nat → World → Prop)
    (hY : ∀ pre x W, J pre W → pre.length < L.length → YieldAt F (n - 1) Tryz.prog l (bkEnc L x) W fun e W' =>
      (e = .returned (.bool true) ∧ J (pre ++ [x]) W' ∧ KpS Bs g W W') ∨ (e = .returned (.bool false) ∧ Jx (pre ++ [x]) W'))
    (W : World) (hBs : W.cell? ⟨Bs, 0, none⟩ = some (.slice (some ⟨g, 0, none⟩) L.length c)) (hc1 : L.length ≤ c) (hc2 : c ≤ 9223372036854775807)
    (hrow : ∀ i, i < L.length → W.cell? ⟨g, i * 3, none⟩ = some (.int .u64 (L.getD i (0, 0, 0)).1) ∧ W.cell? ⟨g, i * 3 + 1, none⟩ = some (.int .i64 (L.getD i (0, 0, 0)).2.1) ∧ W.cell? ⟨g, i * 3 + 2, none⟩ = some (.int .i64 (L.getD i (0, 0, 0)).2.2)) (h0 : J [] W) :
    CallsIn F n Tryz.prog 111 #[.func (.yield l) #[] #[], .pointer (some ⟨Bs, 0, none⟩)] W fun e W' => (∃ v, e = .returned v) ∧ ((∃ ys, ys = dn L.length L.length ∧ J ys W') ∨ (∃ pre, True ∧ Jx pre W')) := by
  have HROW := Lib.hid hrow
  obtain ⟨N, hN⟩ : ∃ N, L.length = N := ⟨_, rfl⟩
  rw [hN] at hL hc1 hY hBs HROW ⊢
  clear hrow hN
  refine callsIn_of_wp Tryz.func111 rfl hF ?_ hro
  simp only [Tryz.ntmps111, List.size_toArray, List.length_cons, List.length_nil, Nat.reduceAdd, Nat.reduceSub, Array.replicate_succ, Array.replicate_zero, List.push_toArray, List.append_toArray, List.nil_append, List.cons_append]
  gi_wp2
  gi_loopw [3] (fun i wr => ∃ k : Nat, k ≤ N ∧ i = .int .i64 ((N : Int) - 1 - (k : Int)) ∧ J (dn N k) wr ∧ KpS Bs g W wr) (fun i _ => (intOf i + 1).toNat)
  case atStart => exact ⟨0, Nat.zero_le _, by simp, h0, KpS.refl _ _ _⟩
  case round =>
    obtain ⟨k, hk, rfl, hJs, hkp⟩ := hrel
    have hBs2 : wr.cell? ⟨Bs, 0, none⟩ = some (.slice (some ⟨g, 0, none⟩) N c) := (hkp.cellB 0).trans hBs
    by_cases hlt : k < N
    · obtain ⟨m, hm⟩ : ∃ m, N - 1 - k = m := ⟨_, rfl⟩
      have hmi : (N : Int) - 1 - (k : Int) = (m : Int) := by omega
      have hml : m < N := by omega
      obtain ⟨x0, x1, x2⟩ := HROW.out m hml
      rw [← hkp.cellG] at x0 x1 x2
      obtain ⟨fn, tmps, assign, body, hy, hR⟩ := hY _ m wr hJs (by rw [dn_len]; exact hlt)
      have HR := Lib.hid hR
      unfold bkEnc at hy
      generalize L.getD m (0, 0, 0) = r at *
      obtain ⟨a, t, st⟩ := r
      simp only at x0 x1 x2 hy
      rw [hmi]
      clear hR hY HROW
      gi_wp2
      refine HR.out.mono ?_
      rintro e W3 (⟨rfl, hJ3, hk3⟩ | ⟨rfl, hJx3⟩)
      · have hwr : IntKind.i64.wrap ((m : Int) - 1) = (m : Int) - 1 := by rw [IntKind.wrap_i64]; omega
        gi_wp2
        go_roundw
        case rel => exact ⟨k + 1, by omega, by congr 1; omega, by rw [dn_succ, hm]; exact hJ3, hkp.trans hk3⟩
        case measure => simp [intOf]
      · gi_wp2
        refine bodyPost_ret (results_none rfl _ _ _) rfl ?_
        exact ⟨⟨_, rfl⟩, .inr ⟨_, trivial, hJx3⟩⟩
    · obtain rfl : k = N := by omega
      have hmi : (k : Int) - 1 - (k : Int) = -1 := by omega
      rw [hmi]
      gi_wp2
      go_end0
      exact ⟨⟨_, rfl⟩, .inl ⟨_, rfl, hJs⟩⟩
theorem backS_in (F : Fence) (n : Nat) (hF : F.fn 88) (hro : F.round = none) (p : Option Addr) (m c : Nat) (w : World) :
    CallsIn F n Tryz.prog 88 #[.slice p m c] w fun e w' => e = .returned (.func (.func 111) #[] #[.pointer (some ⟨w.heap.size, 0, none⟩)]) ∧ w' = w.alloc (.cells #[.slice p m c] 85) := by
  refine callsIn_of_wp Tryz.func88 rfl hF ?_ hro
  simp only [Tryz.ntmps88, List.size_toArray, List.length_cons, List.length_nil, Nat.reduceAdd, Nat.reduceSub, Array.replicate_succ, Array.replicate_zero, List.push_toArray, List.append_toArray, List.nil_append, List.cons_append]
  gi_wp2
  go_ret
  exact ⟨rfl, rfl⟩
theorem backS_stops (F : Fence) (n : Nat) (hF : F.fn 111) (hro : F.round = none) (hn : 1 ≤ n) (Bs g c : Nat) (L : List Rec) (hL : L.length ≤ 1000) (w : World) (hb1 : Bs < w.heap.size) (hg1 : g < w.heap.size) (hBs : w.cell? ⟨Bs, 0, none⟩ = some (.slice (some ⟨g, 0, none⟩) L.length c)) (hc1 : L.length ≤ c) (hc2 : c ≤ 9223372036854775807)
    (hrow : ∀ i, i < L.length → w.cell? ⟨g, i * 3, none⟩ = some (.int .u64 (L.getD i (0, 0, 0)).1) ∧ w.cell? ⟨g, i * 3 + 1, none⟩ = some (.int .i64 (L.getD i (0, 0, 0)).2.1) ∧ w.cell? ⟨g, i * 3 + 2, none⟩ = some (.int .i64 (L.getD i (0, 0, 0)).2.2)) :
    SeqStopsK F n Tryz.prog 111 #[.pointer (some ⟨Bs, 0, none⟩)] (bkEnc L) (KpS Bs g) (fun ys => ys = dn L.length L.length) (fun _ => True) L.length w := fun l J Jx W hW _ _ hY h0 =>
  backS1_in F n hF hro hn l Bs g c L hL J Jx hY W ((hW.cell (p := ⟨Bs, 0, none⟩) hb1).trans hBs) hc1 hc2 (fun i hi => ⟨(hW.cell (p := ⟨g, i * 3, none⟩) hg1).trans (hrow i hi).1, (hW.cell (p := ⟨g, i * 3 + 1, none⟩) hg1).trans (hrow i hi).2.1, (hW.cell (p := ⟨g, i * 3 + 2, none⟩) hg1).trans (hrow i hi).2.2⟩) h0
theorem reverseU_nil (w : World) : Calls Tryz.prog 89 #[.slice none 0 0] w fun e w' => e = .returned (.tuple #[]) ∧ w' = w := by
  go_enter Tryz.func89, Tryz.ntmps89
  go_wp2
  refine wp_loop_rounds 1 ?_
  rw [rounds_succ]
  go_wp2
  go_end0
  exact ⟨rfl, rfl⟩
theorem BlkIs.own {cs : Array Value} {T : TypeId} {C : Nat} {X Y : World} {row : Option Nat} (h : BlkIs cs T C X) (hg : X.grownBy Y row) (hr : ∀ r, row = some r → ∃ o : Obj, X.heap[r]? = some o ∧ o.isCells = false) : BlkIs cs T C Y :=
  h.grown hg (fun e => by
    obtain ⟨o, ho, hc⟩ := hr C e.symm
    rw [show X.heap[C]? = _ from h] at ho
    cases ho
    cases hc)
def loseAct (C B g N c b6 x : Nat) (r : Rec) : Act := { tmps := #[.pointer (some ⟨C, 0, none⟩), .pointer (some ⟨B, 0, none⟩), .slice none 0 0, .pointer (some ⟨B + 1, 0, none⟩), .pointer (some ⟨B + 1 + 1, 0, none⟩), .int .i64 (x : Int), .pointer (some ⟨b6, 0, none⟩), .pointer (some ⟨C, 0, none⟩), .pointer (some ⟨C, 0, none⟩), .pointer (some ⟨C, 0, none⟩), .slice (some ⟨g, 0, none⟩) N c, .func (.func 111) #[] #[.pointer (some ⟨B + 1 + 1 + 1, 0, none⟩)], .int .i64 (x : Int), .agg #[.int .u64 r.1, .int .i64 r.2.1, .int .i64 r.2.2], undef, undef, undef, undef, undef, undef, undef, undef, undef, undef, undef, undef, undef, undef, undef, undef, undef, undef, undef, undef, undef, undef, undef, undef, undef, undef, undef, undef, undef], defers := [] }
/-- The boxes of loseOvertaken, b got so far. -/
def LoseI (B C : Nat) (w : World) (pre : List Nat) (W : World) : Prop := ∃ b : Nat, b ≤ pre.length ∧ BlkIs #[.int .i64 (b : Int)] 3 (B + 1 + 1) W ∧ BlkIs #[.pointer (some ⟨C, 0, none⟩)] 42 B W ∧ BlkIs #[.slice none 0 0] 28 (B + 1) W ∧ Below B w W ∧ B + 1 + 1 + 1 < W.heap.size
set_option maxRecDepth 100000 in
set_option maxHeartbeats 4000000 in
theorem sentLose_few (L : List Rec) (hL : L.length ≤ 3) (C g c : Nat) (w : World) (h : RecsAt L C g c w) :
    Calls Tryz.prog 59 #[.pointer (some ⟨C, 0, none⟩)] w fun e w' => e = .returned (.slice none 0 0) ∧ Below w.heap.size w w' := by
  refine (callsIn_wide (n := 8)).1 ?_
  refine callsIn_of_wp_marks Tryz.func59 rfl trivial ?_ rfl
  simp only [Tryz.ntmps59, List.size_toArray, List.length_cons, List.length_nil, Nat.reduceAdd, Nat.reduceSub, Array.replicate_succ, Array.replicate_zero, List.push_toArray, List.append_toArray, List.nil_append, List.cons_append]
  have HB : Hid (Below w.heap.size w (((w.alloc (.cells #[.pointer (some ⟨C, 0, none⟩)] 42)).alloc (.cells #[.slice none 0 0] 28)).alloc (.cells #[.int .i64 0] 3))) := Lib.hid ((((Kept.refl [] w).alloc _).alloc _).alloc _).below0
  have hsz : (((w.alloc (.cells #[.pointer (some ⟨C, 0, none⟩)] 42)).alloc (.cells #[.slice none 0 0] 28)).alloc (.cells #[.int .i64 0] 3)).heap.size = w.heap.size + 1 + 1 + 1 := by simp
  have k0 : BlkIs #[.pointer (some ⟨C, 0, none⟩)] 42 w.heap.size (((w.alloc (.cells #[.pointer (some ⟨C, 0, none⟩)] 42)).alloc (.cells #[.slice none 0 0] 28)).alloc (.cells #[.int .i64 0] 3)) := ((BlkIs.new _ _ _).alloc _).alloc _
  have k1 : BlkIs #[.slice none 0 0] 28 (w.heap.size + 1) (((w.alloc (.cells #[.pointer (some ⟨C, 0, none⟩)] 42)).alloc (.cells #[.slice none 0 0] 28)).alloc (.cells #[.int .i64 0] 3)) := by
    have := (BlkIs.new #[.slice none 0 0] 28 (w.alloc (.cells #[.pointer (some ⟨C, 0, none⟩)] 42))).alloc (.cells #[.int .i64 0] 3)
    rw [World.size_alloc] at this
    exact this
  have k2 : BlkIs #[.int .i64 0] 3 (w.heap.size + 1 + 1) (((w.alloc (.cells #[.pointer (some ⟨C, 0, none⟩)] 42)).alloc (.cells #[.slice none 0 0] 28)).alloc (.cells #[.int .i64 0] 3)) := by
    have := BlkIs.new #[.int .i64 0] 3 ((w.alloc (.cells #[.pointer (some ⟨C, 0, none⟩)] 42)).alloc (.cells #[.slice none 0 0] 28))
    rw [World.size_alloc, World.size_alloc] at this
    exact this
  have a0 : (((w.alloc (.cells #[.pointer (some ⟨C, 0, none⟩)] 42)).alloc (.cells #[.slice none 0 0] 28)).alloc (.cells #[.int .i64 0] 3)).cell? ⟨C, 0, none⟩ = some (.slice (some ⟨g, 0, none⟩) L.length c) := (h.below HB.out).blk.cell 0
  have a1 := k0.cell 0
  have H3 : Hid (RecsAt L C g c (((w.alloc (.cells #[.pointer (some ⟨C, 0, none⟩)] 42)).alloc (.cells #[.slice none 0 0] 28)).alloc (.cells #[.int .i64 0] 3))) := Lib.hid (h.below HB.out)
  have HLT : Hid (g < w.heap.size) := Lib.hid h.lt
  have K0 := Lib.hid k0
  have K1 := Lib.hid k1
  have K2 := Lib.hid k2
  clear h k0 k1 k2
  gi_wp2
  generalize ((w.alloc (.cells #[.pointer (some ⟨C, 0, none⟩)] 42)).alloc (.cells #[.slice none 0 0] 28)).alloc (.cells #[.int .i64 0] 3) = W1 at *
  obtain ⟨B, hB⟩ : ∃ B, w.heap.size = B := ⟨_, rfl⟩
  rw [hB] at HB hsz a1 HLT K0 K1 K2 ⊢
  have HBe := Lib.hid hB
  obtain ⟨N, hN⟩ : ∃ N, L.length = N := ⟨_, rfl⟩
  have hN3 : N ≤ 3 := by omega
  have HR1 : Hid (∀ i, i < N → W1.cell? ⟨g, i * 3, none⟩ = some (.int .u64 (L.getD i (0, 0, 0)).1) ∧ W1.cell? ⟨g, i * 3 + 1, none⟩ = some (.int .i64 (L.getD i (0, 0, 0)).2.1) ∧ W1.cell? ⟨g, i * 3 + 2, none⟩ = some (.int .i64 (L.getD i (0, 0, 0)).2.2)) := Lib.hid (fun i hi => by
    have h1 : L[i]? = some (L.getD i (0, 0, 0)) := by
      rw [List.getD_eq_getElem?_getD, List.getElem?_eq_getElem (by omega)]; rfl
    exact H3.out.row i _ h1)
  have HC1 : Hid (N ≤ c ∧ c ≤ 9223372036854775807) := Lib.hid ⟨by rw [← hN]; exact H3.out.cap1, H3.out.cap2⟩
  have HSQ : Hid (SeqStopsK Fence.wide 7 Tryz.prog 111 #[.pointer (some ⟨B + 1 + 1 + 1, 0, none⟩)] (bkEnc L) (KpS (B + 1 + 1 + 1) g) (fun ys => ys = dn N N) (fun _ => True) N (W1.alloc (.cells #[.slice (some ⟨g, 0, none⟩) N c] 85))) := Lib.hid (by
    have hb := BlkIs.new #[.slice (some ⟨g, 0, none⟩) N c] 85 W1
    rw [hsz] at hb
    have hg1 : g < W1.heap.size := by have := HLT.out; omega
    have := backS_stops Fence.wide 7 trivial rfl (by decide) (B + 1 + 1 + 1) g c L (by omega) (W1.alloc (.cells #[.slice (some ⟨g, 0, none⟩) N c] 85)) hb.lt (Nat.lt_of_lt_of_le hg1 (bel_alloc W1 _).size) (by rw [hN]; exact hb.cell 0) (by rw [hN]; exact HC1.out.1) HC1.out.2 (fun i hi => by
      obtain ⟨x0, x1, x2⟩ := HR1.out i (by omega)
      exact ⟨((bel_alloc W1 _).cell (p := ⟨g, i * 3, none⟩) hg1).trans x0, ((bel_alloc W1 _).cell (p := ⟨g, i * 3 + 1, none⟩) hg1).trans x1, ((bel_alloc W1 _).cell (p := ⟨g, i * 3 + 2, none⟩) hg1).trans x2⟩)
    rw [hN] at this
    exact this)
  rw [hN] at a0 ⊢
  clear hB hN hL H3 HR1
  refine ⟨trivial, ?_⟩
  refine (backS_in Fence.wide _ trivial rfl _ _ _ _).mono ?_
  rintro e w2 ⟨rfl, rfl⟩
  have HI0 : Hid (LoseI B C w [] (W1.alloc (.cells #[.slice (some ⟨g, 0, none⟩) N c] 85))) := Lib.hid ⟨0, Nat.le_refl _, K2.out.alloc _, K0.out.alloc _, K1.out.alloc _, HB.out.trans ((bel_alloc W1 _).mono (by omega)), by rw [World.size_alloc]; omega⟩
  have hsz2 : (W1.alloc (.cells #[.slice (some ⟨g, 0, none⟩) N c] 85)).heap.size = B + 1 + 1 + 1 + 1 := by rw [World.size_alloc, hsz]
  rw [hsz]
  generalize W1.alloc (.cells #[.slice (some ⟨g, 0, none⟩) N c] 85) = W2 at *
  clear a0 a1 hsz K0 K1 K2 HB
  gi_wp2
  refine wpIn_rangeFunc_ownH rfl (by decide) (gf := 111) (lb := #[.pointer (some ⟨B + 1 + 1 + 1, 0, none⟩)]) rfl trivial (enters_of Tryz.func111 (by kernel_rfl) rfl)
    HSQ.out KpS.trans (fun W l o o' hl ho hc hw => ?kb) (Below.refl _ _) (fun _ => rfl)
    (LoseI B C w) (fun _ _ _ => False) (fun s X Y row hs hg hr => ?own) (fun _ _ _ _ _ hs _ _ => hs) HI0.out
    (fun x a' W => ∃ b6, B + 1 + 1 + 1 < b6 ∧ BlkIs #[.int .u64 (L.getD x (0, 0, 0)).1, .int .i64 (L.getD x (0, 0, 0)).2.1, .int .i64 (L.getD x (0, 0, 0)).2.2] 109 b6 W ∧ a' = loseAct C B g N c b6 x (L.getD x (0, 0, 0)))
    (fun x a' _ X Y row hs hg hr => by obtain ⟨b6, h1, h2, h3⟩ := hs; exact ⟨b6, h1, h2.own hg (fun r e => (hr r e).2), h3⟩)
    ?assign ?body ?done ?stop
  case kb =>
    have hl2 : l < W.heap.size := (Array.getElem?_eq_some_iff.1 ho).1
    have hg0 := HLT.out
    rw [hsz2] at hl
    exact ⟨(grownBy_putObj' W l o').block (B + 1 + 1 + 1) (by omega) (fun e => by cases e; omega), (grownBy_putObj' W l o').block g (by omega) (fun e => by cases e; omega)⟩
  case own =>
    obtain ⟨b, hb, h1, h2, h3, h4, h5⟩ := hs
    refine ⟨b, hb, h1.own hg (fun r e => (hr r e).2), h2.own hg (fun r e => (hr r e).2), h3.own hg (fun r e => (hr r e).2), ?_, Nat.lt_of_lt_of_le h5 hg.size⟩
    rw [hsz2] at hr
    exact h4.grown hg (by have := h1.lt; omega) (fun r e => by have := (hr r e).1; omega)
  case assign =>
    rintro l pre x W K ⟨b, hb, h1, h2, h3, h4, h5⟩ hK
    simp only [bkEnc]
    generalize L.getD x (0, 0, 0) = rc at hK ⊢
    obtain ⟨n, t, st⟩ := rc
    simp only at hK ⊢
    have HK := Lib.hid hK
    clear hK
    gi_wp2
    have hg0 := HLT.out
    exact HK.out _ _ ((KeepsOthers.alloc _ _).from _) ⟨(bel_alloc W _).block _ h5, (bel_alloc W _).block _ (by omega)⟩ ⟨b, hb, h1.alloc _, h2.alloc _, h3.alloc _, h4.trans ((bel_alloc W _).mono (by omega)), by rw [World.size_alloc]; omega⟩ ⟨W.heap.size, h5, BlkIs.new _ _ _, rfl⟩
  case body =>
    rintro l pre x a' W hl ⟨r, hr⟩ ⟨b, hb, h1, h2, h3, h4, h5⟩ ⟨b6, hb6, hx6, rfl⟩ hlt
    unfold loseAct
    generalize L.getD x (0, 0, 0) = rc at *
    obtain ⟨n, t, st⟩ := rc
    simp only at hx6 ⊢
    have c2 : W.cell? ⟨b6, 2, none⟩ = some (.int .i64 st) := hx6.cell 2
    have d0 : W.cell? ⟨B + 1 + 1, 0, none⟩ = some (.int .i64 (b : Int)) := h1.cell 0
    have df := h1.free 0
    have hb3 : (b : Int) < 3 := by omega
    have HJ : Hid (KeepsFrom W2.heap.size W (W.setCell ⟨B + 1 + 1, 0, none⟩ (.int .i64 ((b : Int) + 1))) ∧ KpS (B + 1 + 1 + 1) g W (W.setCell ⟨B + 1 + 1, 0, none⟩ (.int .i64 ((b : Int) + 1))) ∧ LoseI B C w (pre ++ [x]) (W.setCell ⟨B + 1 + 1, 0, none⟩ (.int .i64 ((b : Int) + 1)))) := Lib.hid (by
      have hg0 := HLT.out
      refine ⟨(KeepsOthers.setCell W _ _).from _, ⟨Below.heap_setCell _ _ _ _ (by simp), Below.heap_setCell _ _ _ _ (by simp; omega)⟩, b + 1, by simp; omega, h1.set 0 _, h2.far (show B ≠ B + 1 + 1 by omega) _, h3.far (show B + 1 ≠ B + 1 + 1 by omega) _, ?_, by simpa using h5⟩
      have := ((Kept.refl [B + 1 + 1] W).setCell (p := ⟨B + 1 + 1, 0, none⟩) (.inl (by simp)) (.int .i64 ((b : Int) + 1))).below (B := B) (by omega) (by intro x hx; simp at hx; omega)
      exact h4.trans this)
    have HJ0 : Hid (LoseI B C w (pre ++ [x]) W) := Lib.hid ⟨b, by simp; omega, h1, h2, h3, h4, h5⟩
    clear h1 h2 h3 h4 h5 hx6 hr hl
    by_cases hst : st = 1
    · subst hst
      gi_wp2
      exact HJ.out
    · by_cases hs0 : st = 0
      · subst hs0
        gi_wp2
        exact ⟨KeepsFrom.refl _ _, KpS.refl _ _ _, HJ0.out⟩
      · gi_wp2
        exact ⟨KeepsFrom.refl _ _, KpS.refl _ _ _, HJ0.out⟩
  case done =>
    rintro D ys W hD rfl ⟨b, hb, h1, h2, h3, h4, h5⟩ hK
    have c3 : W.cell? ⟨B + 1, 0, none⟩ = some (.slice none 0 0) := h3.cell 0
    gi_wp2
    refine ⟨trivial, ?_⟩
    refine ((callsIn_wide (n := 7)).2 (reverseU_nil W)).mono ?_
    rintro e w5 ⟨rfl, rfl⟩
    gi_wp2
    refine ⟨by simp, .inl ⟨_, _, rfl, run_takeDeferred hK, ?_⟩⟩
    refine ⟨_, results_tmp rfl _ _ _, rfl, ?_⟩
    rw [HBe.out]
    exact h4.trans (belowK_b (n₀ := B) (w := W2) (by omega) w5 D _ _ hD hK rfl rfl)
  case stop =>
    rintro D c pre W _ _ h _
    exact h.elim
end Go.Proofs.YtbiglbclifbmhaaGreatDoor
