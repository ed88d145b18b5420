/-
  Package feed: what lies behind its pointer; New, pass.
  Package feed: nothing is lost where one number alone is there.
  Package feed: the first number, and what is told then.
-/
import Derived.Test.YtnhlachoimlhhaaGreatDoorBlk
import Derived.Test.YtnhlachoimlhhaaGreatDoorMatW
import Derived.Test.YtnhlachoimlhhaaGreatDoorChecked
import Derived.WalkKit
import Derived.ProofKit
import Derived.LoopTactic
import Derived.Outline
import Derived.RegionTactic
import Derived.Deep.RegionWith
import Derived.BigQuiet
import Derived.Deep.QuietTactic
import Derived.Deep.Cut
import Derived.Deep.DeepCutAuto
import Derived.Laws.NewBlocks
import Derived.RangeFuncNested
import Derived.RangeFuncBound
import Derived.RangeFuncCalls
import Derived.RangeFuncLeaves
import Derived.RangeFuncBox
import Derived.Shelf.Abstract
import Derived.Shelf.RegionOpen
import Derived.OwnWalkIn
import Derived.TacticsInMore
import Derived.LoopNIn
import Derived.LoopIn
import Derived.RegionIn
import Derived.BigRegionIn
import Derived.Test.YtnhlachoimlhhaaGreatDoorSeqA
import Derived.Test.YtnhlachoimlhhaaGreatDoorIvW
namespace Go.Proofs.YtnhlachoimlhhaaGreatDoor
open Go.ChangeShapes Go.WideShapes Go.ChangeAt Go.RowKit
set_option linter.unusedVariables false
set_option linter.unusedSimpArgs false

theorem run_box_agg (T : TypeId) (cs : Array Value) (w : World) : (Instr.box T (.agg cs)).run Tryz.prog w = .ok (.pointer (some ⟨w.heap.size, 0, none⟩)) (w.alloc (.cells cs T)) := by
  unfold Instr.box
  simp [go_sem]
theorem box_at {ops : Array Oper} {rest : List Oper} {o : Oper} {a : Act} {w : World} {Q : Exit → Act → World → Prop} (hgd : o.guard = none) (T : TypeId) (x : Operand) (ho : o.op = .box T x)
    (cs : Array Value) (hx : a.eval x = .agg cs) (hh : wpList Tryz.prog ops Q rest (a.put o.dst (.pointer (some ⟨w.heap.size, 0, none⟩))) (w.alloc (.cells cs T))) : wpList Tryz.prog ops Q (o :: rest) a w :=
  wpList_plain hgd fun _ hK => by
    have hb := run_box_agg T cs w
    rw [← hx] at hb
    unfold Oper.wp execOp
    simp only [ho, List.map_toArray, List.map_cons, List.map_nil, Sem.run_bind, hb, Result.andThen_ok]
    exact hK _ _ hh
/-- A receiver's numbers. -/
structure FdS where
  round : Int
  now : Int
  first : Nat
  newest : Nat
  nums : List (Int × Int)
  span : Int
  lost : Int
  en : Nat
  eat : Int
  bytes : Nat
  since : Int
def numList (l : List (Int × Int)) : List Value := l.flatMap fun p => [.int .i64 p.1, .int .i64 p.2]
theorem numList_len (l : List (Int × Int)) : (numList l).length = l.length * 2 := by
  induction l with
  | nil => rfl
  | cons c l ih => simp only [numList, List.flatMap_cons, List.length_append, List.length_cons, List.length_nil] at *; omega
theorem numList_get (l : List (Int × Int)) (i : Nat) (h : i < l.length) : (numList l)[i * 2]? = some (.int .i64 (l.getD i (0, 0)).1) ∧ (numList l)[i * 2 + 1]? = some (.int .i64 (l.getD i (0, 0)).2) := by
  induction l generalizing i with
  | nil => simp at h
  | cons c l ih =>
    cases i with
    | zero => exact ⟨rfl, rfl⟩
    | succ i =>
      have := ih i (by simpa using h)
      have e : numList (c :: l) = [.int .i64 c.1, .int .i64 c.2] ++ numList l := rfl
      rw [e, List.getElem?_append_right (by simp; omega), List.getElem?_append_right (by simp; omega)]
      have e1 : (i + 1) * 2 - [Value.int .i64 c.1, .int .i64 c.2].length = i * 2 := by simp; omega
      have e2 : (i + 1) * 2 + 1 - [Value.int .i64 c.1, .int .i64 c.2].length = i * 2 + 1 := by simp; omega
      rw [e1, e2]
      simpa using this
def fdHead (s : FdS) : List Value := [.int .i64 s.round, .int .i64 s.now, .int .u64 s.first, .int .u64 s.newest]
def fdTail (s : FdS) (cl : Value) : List Value := [.int .i64 s.span, .int .i64 s.lost, .int .u64 s.en, .int .i64 s.eat, cl, .int .u64 s.bytes, .int .i64 s.since]
def fdCells (s : FdS) (cl : Value) : Array Value := (fdHead s ++ (numList s.nums ++ fdTail s cl)).toArray
theorem fd_head (s : FdS) (cl : Value) (i : Nat) (h : i < 4) : (fdCells s cl)[i]? = (fdHead s)[i]? := by
  unfold fdCells
  rw [List.getElem?_toArray, List.getElem?_append_left (by simpa [fdHead] using h)]
theorem fd_num (s : FdS) (cl : Value) (hn : s.nums.length = 250) (k : Nat) (h : k < 250) : (fdCells s cl)[4 + k * 2]? = some (.int .i64 (s.nums.getD k (0, 0)).1) ∧ (fdCells s cl)[4 + k * 2 + 1]? = some (.int .i64 (s.nums.getD k (0, 0)).2) := by
  have hl := numList_len s.nums
  obtain ⟨g1, g2⟩ := numList_get s.nums k (by omega)
  have l4 : (fdHead s).length = 4 := rfl
  unfold fdCells
  refine ⟨?_, ?_⟩
  · rw [List.getElem?_toArray, List.getElem?_append_right (by omega), List.getElem?_append_left (by omega), show 4 + k * 2 - (fdHead s).length = k * 2 by omega]
    exact g1
  · rw [List.getElem?_toArray, List.getElem?_append_right (by omega), List.getElem?_append_left (by omega), show 4 + k * 2 + 1 - (fdHead s).length = k * 2 + 1 by omega]
    exact g2
theorem fd_tail (s : FdS) (cl : Value) (hn : s.nums.length = 250) (i : Nat) (h : i < 7) : (fdCells s cl)[504 + i]? = (fdTail s cl)[i]? := by
  have hl := numList_len s.nums
  unfold fdCells
  rw [List.getElem?_toArray, List.getElem?_append_right (by simp [fdHead]; omega), List.getElem?_append_right (by simp [fdHead]; omega)]
  congr 1
  simp [fdHead]; omega
/-- A receiver at block C: the intervals that are closed in the slice cl. -/
structure FdAt (s : FdS) (cl : Value) (C : Nat) (w : World) : Prop where
  blk : BlkIs (fdCells s cl) 210 C w
  len : s.nums.length = 250
theorem FdAt.kept {s : FdS} {cl : Value} {C : Nat} {S : List Nat} {w w' : World} (h : FdAt s cl C w) (k : Kept S w w') (hn : C ∉ S) : FdAt s cl C w' := ⟨h.blk.kept k hn, h.len⟩
theorem FdAt.below {s : FdS} {cl : Value} {C : Nat} {w w' : World} (h : FdAt s cl C w) (k : Below w.heap.size w w') : FdAt s cl C w' := ⟨h.blk.below k, h.len⟩
theorem FdAt.head {s : FdS} {cl : Value} {C : Nat} {w : World} (h : FdAt s cl C w) : w.cell? ⟨C, 0, none⟩ = some (.int .i64 s.round) ∧ w.cell? ⟨C, 1, none⟩ = some (.int .i64 s.now) ∧ w.cell? ⟨C, 2, none⟩ = some (.int .u64 s.first) ∧ w.cell? ⟨C, 3, none⟩ = some (.int .u64 s.newest) :=
  ⟨(h.blk.cell 0).trans (fd_head s cl 0 (by decide)), (h.blk.cell 1).trans (fd_head s cl 1 (by decide)), (h.blk.cell 2).trans (fd_head s cl 2 (by decide)), (h.blk.cell 3).trans (fd_head s cl 3 (by decide))⟩
theorem FdAt.tail {s : FdS} {cl : Value} {C : Nat} {w : World} (h : FdAt s cl C w) : w.cell? ⟨C, 504, none⟩ = some (.int .i64 s.span) ∧ w.cell? ⟨C, 505, none⟩ = some (.int .i64 s.lost) ∧ w.cell? ⟨C, 506, none⟩ = some (.int .u64 s.en) ∧ w.cell? ⟨C, 507, none⟩ = some (.int .i64 s.eat) ∧ w.cell? ⟨C, 508, none⟩ = some cl ∧ w.cell? ⟨C, 509, none⟩ = some (.int .u64 s.bytes) ∧ w.cell? ⟨C, 510, none⟩ = some (.int .i64 s.since) :=
  ⟨(h.blk.cell 504).trans (fd_tail s cl h.len 0 (by decide)), (h.blk.cell 505).trans (fd_tail s cl h.len 1 (by decide)), (h.blk.cell 506).trans (fd_tail s cl h.len 2 (by decide)), (h.blk.cell 507).trans (fd_tail s cl h.len 3 (by decide)), (h.blk.cell 508).trans (fd_tail s cl h.len 4 (by decide)), (h.blk.cell 509).trans (fd_tail s cl h.len 5 (by decide)), (h.blk.cell 510).trans (fd_tail s cl h.len 6 (by decide))⟩
theorem FdAt.num {s : FdS} {cl : Value} {C : Nat} {w : World} (h : FdAt s cl C w) (k : Nat) (hk : k < 250) : w.cell? ⟨C, 4 + k * 2, none⟩ = some (.int .i64 (s.nums.getD k (0, 0)).1) ∧ w.cell? ⟨C, 4 + k * 2 + 1, none⟩ = some (.int .i64 (s.nums.getD k (0, 0)).2) :=
  ⟨(h.blk.cell _).trans (fd_num s cl h.len k hk).1, (h.blk.cell _).trans (fd_num s cl h.len k hk).2⟩
/-- A cell of the head or the tail is written. -/
theorem FdAt.setTail {s t : FdS} {cl cl' : Value} {C : Nat} {w : World} (h : FdAt s cl C w) (i : Nat) (hi : i < 7) (v : Value) (e1 : fdHead t = fdHead s) (e2 : t.nums = s.nums) (e3 : (fdTail s cl).set i v = fdTail t cl') : FdAt t cl' C (w.setCell ⟨C, 504 + i, none⟩ v) := by
  have hl := numList_len s.nums
  have hn := h.len
  refine ⟨?_, by rw [e2]; exact h.len⟩
  have h1 := h.blk.set (504 + i) v
  have e : (fdCells s cl).setIfInBounds (504 + i) v = fdCells t cl' := by
    unfold fdCells
    rw [List.setIfInBounds_toArray, List.set_append_right _ _ (by simp [fdHead]; omega), List.set_append_right _ _ (by simp [fdHead]; omega)]
    have e4 : 504 + i - (fdHead s).length - (numList s.nums).length = i := by simp [fdHead]; omega
    rw [e4, e3, e1, e2]
  rw [e] at h1
  exact h1
theorem FdAt.setHead {s t : FdS} {cl : Value} {C : Nat} {w : World} (h : FdAt s cl C w) (i : Nat) (hi : i < 4) (v : Value) (e1 : (fdHead s).set i v = fdHead t) (e2 : t.nums = s.nums) (e3 : fdTail t cl = fdTail s cl) : FdAt t cl C (w.setCell ⟨C, i, none⟩ v) := by
  refine ⟨?_, by rw [e2]; exact h.len⟩
  have h1 := h.blk.set i v
  have e : (fdCells s cl).setIfInBounds i v = fdCells t cl := by
    unfold fdCells
    rw [List.setIfInBounds_toArray, List.set_append_left _ _ (by simpa [fdHead] using hi), e1, e2, e3]
  rw [e] at h1
  exact h1
def FdS.fresh (r : Int) : FdS := ⟨r, -9223372036854775808, 0, 0, List.replicate 250 (0, 0), 0, 0, 0, 0, 0, 0⟩
set_option maxRecDepth 100000 in
theorem built_fd (r : Int) (w : World) : (Instr.build 210 #[(0, .int .i64 r), (1, .int .i64 (-9223372036854775808))]).run Tryz.prog w = .ok (.agg (fdCells (FdS.fresh r) (.slice none 0 0))) w :=
  run_build w _ _ _ (by kernel_rfl)
theorem build_fd {ops : Array Oper} {rest : List Oper} {o : Oper} {a : Act} {w : World} {Q : Exit → Act → World → Prop} (hgd : o.guard = none) (x y : Operand) (ho : o.op = .build 210 #[(0, x), (1, y)])
    (r : Int) (hx : a.eval x = .int .i64 r) (hy : a.eval y = .int .i64 (-9223372036854775808))
    (hh : wpList Tryz.prog ops Q rest (a.put o.dst (.agg (fdCells (FdS.fresh r) (.slice none 0 0)))) w) : wpList Tryz.prog ops Q (o :: rest) a w :=
  wpList_plain hgd fun _ hK => by
    have hb := built_fd r w
    rw [← hx, ← hy] at hb
    unfold Oper.wp execOp
    simp only [ho, List.map_toArray, List.map_cons, List.map_nil, Sem.run_bind, hb, Result.andThen_ok]
    exact hK _ _ hh
theorem feedNew_any (r : Int) (h1 : 1 ≤ r) (h2 : r ≤ 4294967296) (w : World) : Calls Tryz.prog 131 #[.int .i64 r] w fun e w' => ∃ C, e = .returned (.pointer (some ⟨C, 0, none⟩)) ∧ FdAt (FdS.fresh r) (.slice none 0 0) C w' ∧ w.heap.size ≤ C ∧ Below w.heap.size w w' := by
  have i1 : (if r < 1 then 1 else r) = r := if_neg (by omega)
  have i2 : (if 4294967296 < r then 4294967296 else r) = r := if_neg (by omega)
  have i3 : ¬ r < 1 := by omega
  have i4 : ¬ 4294967296 < r := by omega
  have i5 : max r 1 = r := by omega
  have i6 : min r 4294967296 = r := by omega
  obtain ⟨FC, hFC⟩ : ∃ FC, fdCells (FdS.fresh r) (.slice none 0 0) = FC := ⟨_, rfl⟩
  have HFC := Lib.hid hFC
  have HB : Hid (∀ {ops : Array Oper} {rest : List Oper} {o : Oper} {a : Act} {w : World} {Q : Exit → Act → World → Prop} (hgd : o.guard = none) (x y : Operand) (ho : o.op = .build 210 #[(0, x), (1, y)])
    (hx : a.eval x = .int .i64 r) (hy : a.eval y = .int .i64 (-9223372036854775808))
    (hh : wpList Tryz.prog ops Q rest (a.put o.dst (.agg FC)) w), wpList Tryz.prog ops Q (o :: rest) a w) := Lib.hid (fun hgd x y ho hx hy hh => build_fd hgd x y ho r hx hy (by rw [hFC]; exact hh))
  clear hFC
  go_enter Tryz.func131, Tryz.ntmps131
  go_wp2_with (first
    | (refine HB.out rfl _ _ rfl rfl rfl ?_)
    | (refine box_at rfl _ _ rfl FC rfl ?_))
  go_ret
  exact ⟨_, rfl, ⟨by rw [HFC.out]; exact BlkIs.new _ _ _, List.length_replicate⟩, Nat.le_refl _, bel_alloc _ _⟩
theorem feedPass_any (s : FdS) (cl : Value) (now : Int) (C : Nat) (w : World) (h : FdAt s cl C w) :
    Calls Tryz.prog 179 #[.pointer (some ⟨C, 0, none⟩), .int .i64 now] w fun e w' => e = .returned (.tuple #[]) ∧ FdAt { s with now := max s.now (min now 4611686018427387904) } cl C w' ∧ Kept [C] w w' := by
  have c1 := h.head.2.1
  have f1 := h.blk.free 1
  obtain ⟨E, hE⟩ : ∃ E, min now 4611686018427387904 = E := ⟨_, rfl⟩
  obtain ⟨F, hF⟩ : ∃ F, max s.now E = F := ⟨_, rfl⟩
  obtain ⟨i1, i2, _⟩ := mni _ _ E hE
  obtain ⟨j1, j2, _⟩ := mxi _ _ F hF
  rw [hE, hF]
  have HH := Lib.hid h
  clear h hE hF
  go_enter Tryz.func179, Tryz.ntmps179
  go_wp2
  go_end0
  exact ⟨rfl, HH.out.setHead 1 (by decide) _ rfl rfl rfl, (Kept.refl _ _).setCell (.inl (by simp)) _⟩
end Go.Proofs.YtnhlachoimlhhaaGreatDoor

namespace Go.Proofs.YtnhlachoimlhhaaGreatDoor
open Go.ChangeShapes Go.WideShapes Go.ChangeAt Go.RowKit Go.Shelf
attribute [local go_sem] Oper.semAt_some
set_option linter.unusedVariables false
set_option linter.unusedSimpArgs false

set_option maxRecDepth 100000 in
/-- slices.Backward of nothing: no round. -/
theorem backL1_nil_in (F : Fence) (n : Nat) (hF : F.fn 226) (hro : F.round = none) (l Bs cap : Nat) (p : Option Addr) (J : List Empty → World → Prop)
    (W : World) (hBs : W.cell? ⟨Bs, 0, none⟩ = some (.slice p 0 cap)) (h0 : J [] W) :
    CallsIn F n Tryz.prog 226 #[.func (.yield l) #[] #[], .pointer (some ⟨Bs, 0, none⟩)] W fun e W' => (∃ v, e = .returned v) ∧ J [] W' := by
  refine callsIn_of_wp Tryz.func226 rfl hF ?_ hro
  simp only [Tryz.ntmps226, List.size_toArray, List.length_cons, List.length_nil, Nat.reduceAdd, Nat.reduceSub, Array.replicate_succ, Array.replicate_zero, List.push_toArray, List.append_toArray, List.nil_append, List.cons_append]
  gi_wp2
  gi_loopw [3] (fun i wr => i = .int .i64 (-1) ∧ J [] wr) (fun _ _ => 0)
  case atStart => exact ⟨rfl, h0⟩
  case round =>
    obtain ⟨rfl, hJs⟩ := hrel
    gi_wp2
    go_end0
    exact ⟨⟨_, rfl⟩, hJs⟩
theorem backL_in (F : Fence) (n : Nat) (hF : F.fn 202) (hro : F.round = none) (p : Option Addr) (m c : Nat) (w : World) :
    CallsIn F n Tryz.prog 202 #[.slice p m c] w fun e w' => e = .returned (.func (.func 226) #[] #[.pointer (some ⟨w.heap.size, 0, none⟩)]) ∧ w' = w.alloc (.cells #[.slice p m c] 245) := by
  refine callsIn_of_wp Tryz.func202 rfl hF ?_ hro
  simp only [Tryz.ntmps202, List.size_toArray, List.length_cons, List.length_nil, Nat.reduceAdd, Nat.reduceSub, Array.replicate_succ, Array.replicate_zero, List.push_toArray, List.append_toArray, List.nil_append, List.cons_append]
  gi_wp2
  go_ret
  exact ⟨rfl, rfl⟩
theorem backL_stops (F : Fence) (n : Nat) (hF : F.fn 226) (hro : F.round = none) (Bs cap : Nat) (p : Option Addr) (w : World) (hb1 : Bs < w.heap.size) (hBs : w.cell? ⟨Bs, 0, none⟩ = some (.slice p 0 cap)) (Kp : World → World → Prop) :
    SeqStopsK F n Tryz.prog 226 #[.pointer (some ⟨Bs, 0, none⟩)] (fun _ : Empty => #[undef, undef]) Kp (fun ys => ys = []) (fun _ => False) 0 w := fun l J Jx W hW hJ _ hY h0 => by
  refine (backL1_nil_in F n hF hro l Bs cap p J W ((hW.cell (p := ⟨Bs, 0, none⟩) hb1).trans hBs) h0).mono ?_
  rintro e W' ⟨he, hj⟩
  exact ⟨he, .inl ⟨[], rfl, hj⟩⟩
set_option maxRecDepth 100000 in
set_option maxHeartbeats 2000000 in
theorem feedLose_one (s : FdS) (cl : Value) (hsp : s.span = 1) (x : Int) (h1 : s.nums.getD 0 (0, 0) = (1, x)) (C : Nat) (w : World) (h : FdAt s cl C w) :
    Calls Tryz.prog 181 #[.pointer (some ⟨C, 0, none⟩)] w fun e w' => e = .returned (.tuple #[]) ∧ Below w.heap.size w w' := by
  have HH := Lib.hid h
  have hC := h.blk.lt
  have n0 := h.num 0 (by decide)
  rw [h1] at n0
  obtain ⟨a0, a1⟩ := n0
  have a2 := h.tail.1
  rw [hsp] at a2
  simp only [Nat.zero_mul, Nat.add_zero, Nat.reduceAdd] at a0 a1
  have HB1 : Hid (BlkIs #[.pointer (some ⟨C, 0, none⟩)] 176 w.heap.size (w.alloc (.cells #[.pointer (some ⟨C, 0, none⟩)] 176))) := Lib.hid (BlkIs.new _ _ _)
  have HW1 : Hid (Below w.heap.size w (w.alloc (.cells #[.pointer (some ⟨C, 0, none⟩)] 176))) := Lib.hid (bel_alloc _ _)
  have HF1 : Hid (FdAt s cl C (w.alloc (.cells #[.pointer (some ⟨C, 0, none⟩)] 176))) := Lib.hid (h.below (bel_alloc _ _))
  have b2 : (w.alloc (.cells #[.pointer (some ⟨C, 0, none⟩)] 176)).cell? ⟨C, 504, none⟩ = some (.int .i64 1) := by rw [HF1.out.tail.1, hsp]
  have b0 : (w.alloc (.cells #[.pointer (some ⟨C, 0, none⟩)] 176)).cell? ⟨C, 4, none⟩ = some (.int .i64 1) := by have := (HF1.out.num 0 (by decide)).1; rw [h1] at this; exact this
  have b1 : (w.alloc (.cells #[.pointer (some ⟨C, 0, none⟩)] 176)).cell? ⟨C, 5, none⟩ = some (.int .i64 x) := by have := (HF1.out.num 0 (by decide)).2; rw [h1] at this; exact this
  have b3 : (w.alloc (.cells #[.pointer (some ⟨C, 0, none⟩)] 176)).cell? ⟨w.heap.size, 0, none⟩ = some (.pointer (some ⟨C, 0, none⟩)) := BlkIs.cell HB1.out 0
  clear h h1 hsp a0 a1 a2
  refine (callsIn_wide (n := 6)).1 ?_
  refine callsIn_of_wp_marks Tryz.func181 rfl trivial ?_ rfl
  simp only [Tryz.ntmps181, List.size_toArray, List.length_cons, List.length_nil, Nat.reduceAdd, Nat.reduceSub, Array.replicate_succ, Array.replicate_zero, List.push_toArray, List.append_toArray, List.nil_append, List.cons_append]
  gi_wp2
  generalize w.alloc (.cells #[.pointer (some ⟨C, 0, none⟩)] 176) = W1 at *
  obtain ⟨B, hB⟩ : ∃ B, w.heap.size = B := ⟨_, rfl⟩
  rw [hB] at b3 HB1 ⊢
  have HBe := Lib.hid hB
  clear hB
  gi_loopw [2, 3, 4, 13] (fun a f t i wr => ∃ (k : Nat) (f' t' : Int), k ≤ 1 ∧ i = .int .i64 (k : Int) ∧ a = .slice none 0 0 ∧ f = .int .i64 f' ∧ t = .int .i64 t' ∧ 0 ≤ f' ∧ f' ≤ k ∧ ∃ n, wr = W1.drewN n) (fun _ _ _ i _ => 1 - (intOf i).toNat)
  case atStart => exact ⟨0, 0, 0, by omega, rfl, rfl, rfl, rfl, by omega, by omega, 0, rfl⟩
  case round =>
    obtain ⟨k, f', t', hk, rfl, rfl, rfl, rfl, hf0, hf1, n, rfl⟩ := hrel
    by_cases hk0 : k < 1
    · obtain rfl : k = 0 := by omega
      gi_wp2
      gi_region
      all_goals
        gi_wp2
        go_roundw
        case rel => exact ⟨1, f' + 1, x, by omega, rfl, rfl, rfl, rfl, by omega, by omega, n + 1, by first | rfl | exact (World.drewN_drewN W1 n 1).symm | exact World.drewN_drewN W1 n 1⟩
        case measure => simp [intOf]
    · obtain rfl : k = 1 := by omega
      have HW2 : Hid (Below w.heap.size w (W1.drewN n)) := Lib.hid (bel_trans HW1.out (bel_drewN _ _))
      clear b0 b1 b2 b3 HF1 HH HB1
      generalize W1.drewN n = W2 at *
      gi_wp2_with (refine ⟨trivial, ?_⟩; gi_at_call 202; refine (backL_in Fence.wide _ trivial rfl _ _ _ _).mono ?_; rintro e w2 ⟨rfl, rfl⟩)
      have hbx := BlkIs.cell (BlkIs.new #[.slice none 0 0] 245 W2) 0
      have HW3 : Hid (Below w.heap.size w (W2.alloc (.cells #[.slice none 0 0] 245))) := Lib.hid (bel_trans HW2.out (bel_alloc _ _))
      refine wpIn_rangeFunc_ownF rfl (by decide) (gf := 226) (lb := #[.pointer (some ⟨W2.heap.size, 0, none⟩)]) rfl trivial (enters_of Tryz.func226 (by kernel_rfl) rfl)
        (backL_stops Fence.wide 5 trivial rfl W2.heap.size 0 none _ (by simp) hbx (fun _ _ => True)) (fun _ _ => trivial) (fun _ _ _ _ _ _ _ _ => trivial) (Below.refl _ _) (fun x => x.elim)
        (fun _ W => Below w.heap.size w W) (fun _ _ _ => False) (ownFrom_below (Nat.le_refl _) HW3.out.size) (fun _ _ _ _ _ hs _ _ => hs) HW3.out (fun x => x.elim) ?assign ?body ?done ?stop
      case assign => intro l x; exact x.elim
      case body => intro l pre x; exact x.elim
      case done =>
        rintro D ys W hD rfl hB hK
        gi_wp2
        refine ⟨by simp, .inl ⟨_, _, rfl, run_takeDeferred hK, ?_⟩⟩
        exact ⟨_, results_none rfl _ _ _, rfl, hB.trans (belowK_b (w := w) (Nat.le_refl _) W D _ _ (Nat.le_trans HW3.out.size hD) hK rfl rfl)⟩
      case stop =>
        rintro D c pre W _ _ h _
        exact h.elim
end Go.Proofs.YtnhlachoimlhhaaGreatDoor

namespace Go.Proofs.YtnhlachoimlhhaaGreatDoor
open Go.ChangeShapes Go.WideShapes Go.ChangeAt Go.RowKit
set_option linter.unusedVariables false
set_option linter.unusedSimpArgs false

theorem FdAt.setNum0 {s t : FdS} {cl : Value} {C : Nat} {w : World} (h : FdAt s cl C w) (p q : Int × Int) (rest : List (Int × Int)) (hs : s.nums = p :: rest) (ht : t.nums = q :: rest) (e1 : fdHead t = fdHead s) (e3 : fdTail t cl = fdTail s cl) :
    FdAt t cl C ((w.setCell ⟨C, 4, none⟩ (.int .i64 q.1)).setCell ⟨C, 5, none⟩ (.int .i64 q.2)) := by
  refine ⟨?_, by have := h.len; rw [hs] at this; rw [ht]; exact this⟩
  have h1 := (h.blk.set 4 (.int .i64 q.1)).set 5 (.int .i64 q.2)
  have e : ((fdCells s cl).setIfInBounds 4 (.int .i64 q.1)).setIfInBounds 5 (.int .i64 q.2) = fdCells t cl := by
    unfold fdCells
    rw [List.setIfInBounds_toArray, List.setIfInBounds_toArray, hs, ht, e1, e3]
    rfl
  rw [e] at h1
  exact h1
def FdS.put1 (s : FdS) (N : Int) (n : Nat) (rest : List (Int × Int)) (sz : Nat) : FdS := { s with now := N, first := n, newest := n, span := 1, since := N, nums := (1, N) :: rest, bytes := s.bytes + sz }
set_option maxRecDepth 100000 in
set_option maxHeartbeats 4000000 in
theorem feedPut_first (s : FdS) (hsp : s.span = 0) (rest : List (Int × Int)) (hnum : s.nums = (0, 0) :: rest) (now : Int) (N : Int) (hN : max s.now (min now 4611686018427387904) = N) (n : Nat) (hd : ∀ w, Calls Tryz.prog 155 #[.int .u64 n, .int .u64 n] w fun e w' => e = .returned (.int .i64 0) ∧ w = w')
    (sz : Nat) (hsz : sz ≤ 65535) (hby : s.bytes ≤ 1099511627776) (cl : Value) (C : Nat) (w : World) (h : FdAt s cl C w) :
    Calls Tryz.prog 142 #[.pointer (some ⟨C, 0, none⟩), .int .i64 now, .int .u64 n, .int .i64 sz] w fun e w' => e = .returned (.bool true) ∧ FdAt (s.put1 N n rest sz) cl C w' ∧ Kept [C] w w' := by
  have HP := Lib.hid (feedPass_any s cl now C w h)
  rw [hN] at HP
  have HD := Lib.hid hd
  clear h hd hN
  go_enter Tryz.func142, Tryz.ntmps142
  go_upto_region 4 with (go_at_call 179; (with_reducible refine HP.out.mono ?_); rintro e W1 ⟨rfl, h1, hk1⟩)
  have a1 := h1.head.2.1
  have a2 := h1.head.2.2.1
  have a3 := h1.head.2.2.2
  have a5 := h1.tail.1
  have a10 := h1.tail.2.2.2.2.2.2
  simp only at a1 a2 a3 a5 a10
  rw [hsp] at a5
  have f2 := h1.blk.free 2
  have f3 := h1.blk.free 3
  have f5 := h1.blk.free 504
  have f10 := h1.blk.free 510
  go_upto_region 6 with fail
  obtain ⟨W2, hW2⟩ : ∃ W2, (((W1.setCell ⟨C, 2, none⟩ (.int .u64 n)).setCell ⟨C, 3, none⟩ (.int .u64 n)).setCell ⟨C, 504, none⟩ (.int .i64 1)).setCell ⟨C, 510, none⟩ (.int .i64 N) = W2 := ⟨_, rfl⟩
  have h2 : FdAt { s with now := N, first := n, newest := n, span := 1, since := N } cl C W2 := by
    rw [← hW2]
    exact (((h1.setHead (t := { s with now := N, first := n }) 2 (by decide) _ rfl rfl rfl).setHead (t := { s with now := N, first := n, newest := n }) 3 (by decide) _ rfl rfl rfl).setTail (t := { s with now := N, first := n, newest := n, span := 1 }) (cl' := cl) 0 (by decide) _ rfl rfl rfl).setTail (cl' := cl) 6 (by decide) _ rfl rfl rfl
  have hk2 : Kept [C] w W2 := by rw [← hW2]; exact (((hk1.setCell (.inl (by simp)) _).setCell (.inl (by simp)) _).setCell (.inl (by simp)) _).setCell (.inl (by simp)) _
  rw [hW2]
  clear hW2 a1 a2 a3 a5 a10 f2 f3 f5 f10 h1 hk1
  have b3 := h2.head.2.2.2
  have b4 := (h2.num 0 (by decide)).1
  have b1 := h2.head.2.1
  rw [show ({ s with now := N, first := n, newest := n, span := 1, since := N } : FdS).nums = (0, 0) :: rest from hnum] at b4
  simp only [Nat.zero_mul, Nat.add_zero, List.getD_cons_zero] at b3 b4 b1
  have b5 := (h2.num 0 (by decide)).2
  simp only [Nat.zero_mul, Nat.add_zero, Nat.reduceAdd] at b5
  have g4 := h2.blk.free 4
  have g5 := h2.blk.free 5
  have H2 := Lib.hid h2
  have HK2 := Lib.hid hk2
  clear h2 hk2
  go_upto_region 12 with (go_at_call 155; (with_reducible refine (HD.out _).mono ?_); rintro e w1 ⟨rfl, rfl⟩)
  go_region
  obtain ⟨W3, hW3⟩ : ∃ W3, ((W2.setCell ⟨C, 4, none⟩ (.int .i64 1)).setCell ⟨C, 5, none⟩ (.int .i64 N)).drew = W3 := ⟨_, rfl⟩
  have h3 : FdAt { s with now := N, first := n, newest := n, span := 1, since := N, nums := (1, N) :: rest } cl C W3 := by
    rw [← hW3]
    exact (FdAt.setNum0 (t := { s with now := N, first := n, newest := n, span := 1, since := N, nums := (1, N) :: rest }) H2.out (0, 0) (1, N) rest hnum rfl rfl rfl).below ⟨rfl, rfl, rfl, Nat.le_refl _, fun _ _ => rfl⟩
  have hk3 : Kept [C] w W3 := by rw [← hW3]; exact ((HK2.out.setCell (.inl (by simp)) _).setCell (.inl (by simp)) _).drew
  rw [hW3]
  clear hW3 b3 b4 b1 b5 g4 g5 H2 HK2
  have d9 := h3.tail.2.2.2.2.2.1
  simp only at d9
  have g9 := h3.blk.free 509
  have i1 : (if (sz : Int) < 0 then 0 else (sz : Int)) = (sz : Int) := if_neg (by omega)
  have i2 : (if (65535 : Int) < (sz : Int) then 65535 else (sz : Int)) = (sz : Int) := if_neg (by omega)
  have i3 : max (sz : Int) 0 = (sz : Int) := by omega
  have i4 : min (sz : Int) 65535 = (sz : Int) := by omega
  have i5 : ¬ (65535 < sz) := by omega
  have hszi : (sz : Int) ≤ 65535 := by omega
  obtain ⟨Z, hZ⟩ : ∃ Z, s.bytes + sz = Z := ⟨_, rfl⟩
  have j1 : (s.bytes : Int) + (sz : Int) = (Z : Int) := by omega
  have j2 : (Z : Int) ≤ 1099511693311 := by omega
  have HZ := Lib.hid hZ
  have H3 := Lib.hid h3
  have HK3 := Lib.hid hk3
  clear hZ h3 hk3
  go_upto_region 14 with fail
  obtain ⟨W4, hW4⟩ : ∃ W4, W3.setCell ⟨C, 509, none⟩ (.int .u64 Z) = W4 := ⟨_, rfl⟩
  have h4 : FdAt (s.put1 N n rest sz) cl C W4 := by
    rw [← hW4]
    exact H3.out.setTail (t := s.put1 N n rest sz) (cl' := cl) 5 (by decide) _ rfl rfl (by unfold FdS.put1; rw [HZ.out]; rfl)
  have hk4 : Kept [C] w W4 := by rw [← hW4]; exact HK3.out.setCell (.inl (by simp)) _
  have HL := Lib.hid (feedLose_one (s.put1 N n rest sz) cl rfl N rfl C W4 h4)
  rw [hW4]
  clear hW4 d9 g9 i1 i2 i3 i4 i5
  go_wp2_with (go_at_call 181; (with_reducible refine HL.out.mono ?_); rintro e W5 ⟨rfl, hb5⟩)
  go_ret
  exact ⟨rfl, h4.below hb5, hk4.trans' (Kept.of_below _ hb5)⟩
theorem TabW.kept {w w' : World} {S : List Nat} (h : TabW w) (k : Kept S w w') (hn : 3 ∉ S) : TabW w' := fun i hi => by
  have h0 := h i hi
  have hlt : 3 < w.heap.size := World.block_lt_of_cell? w ⟨3, i, none⟩ h0
  rw [← h0]
  unfold World.cell?
  rw [k.block _ hlt hn]
theorem feedOpen_none (s : FdS) (p : Option Addr) (c C : Nat) (w : World) (h : FdAt s (.slice p 0 c) C w) :
    Calls Tryz.prog 205 #[.pointer (some ⟨C, 0, none⟩)] w fun e w' => e = .returned (.int .u64 0) ∧ w' = w := by
  have a8 := h.tail.2.2.2.2.1
  clear h
  go_enter Tryz.func205, Tryz.ntmps205
  go_wp2
  go_ret
  exact ⟨rfl, rfl⟩
theorem feedLoss_none (s : FdS) (p : Option Addr) (c : Nat) (hc : c ≤ 9223372036854775807) (C : Nat) (w : World) (hT : TabW w) (h : FdAt s (.slice p 0 c) C w) :
    Calls Tryz.prog 183 #[.pointer (some ⟨C, 0, none⟩)] w fun e w' => e = .returned (.int .u64 0) ∧ ∃ n, w' = w.drewN n := by
  have a8 := h.tail.2.2.2.2.1
  have HO := Lib.hid (fun n => feedOpen_none s p c C (w.drewN n) (h.below (bel_drewN w n)))
  have HR : Hid (∀ n, Calls Tryz.prog 148 #[.int .u64 0, .slice p 0 c] (w.drewN n) fun e w' => e = .returned (.int .u64 0) ∧ ∃ m, w' = (w.drewN n).drewN m) := Lib.hid (fun n => rate_any 0 (.slice p 0 c) [] (by decide) (w.drewN n) (hT.drewN n) ⟨⟨p, c, rfl, Nat.zero_le _, hc, fun i hi => by simp at hi⟩, by simp, fun i => by simp⟩)
  clear h hT
  go_enter Tryz.func183, Tryz.ntmps183
  go_wp2
  go_quiet ((first
    | (go_at_call 205; exact Calls.quiet_of_same (HO.out _))
    | (go_at_call 148; exact Calls.quiet_of (HR.out _))))
  go_wp2
  go_ret
  exact ⟨rfl, _, rfl⟩
def FdS.told (s : FdS) (N : Int) : FdS := { s with now := N, bytes := 0, since := N }
set_option maxHeartbeats 4000000 in
theorem feedTell_none (s : FdS) (now : Int) (a b : Nat) (hN : max s.now (min now 4611686018427387904) = (b : Int)) (hs : s.since = (a : Int)) (hab : a ≤ b) (hb : b ≤ 4611686018427387904) (T : Nat) (hT1 : max (b - a) 1 = T) (hby : s.bytes ≤ 1048576) (p : Option Addr) (c : Nat) (hc : c ≤ 9223372036854775807) (C : Nat) (w : World) (hT : TabW w) (hTC : C ≠ 3) (h : FdAt s (.slice p 0 c) C w) :
    Calls Tryz.prog 143 #[.pointer (some ⟨C, 0, none⟩), .int .i64 now] w fun e w' => e = .returned (.tuple #[.int .u64 (64 * s.bytes * 1000000 / T : Nat), .int .u64 0]) ∧ FdAt (s.told b) (.slice p 0 c) C w' ∧ Kept [C] w w' := by
  have HP := Lib.hid (feedPass_any s (.slice p 0 c) now C w h)
  rw [hN] at HP
  have HTAB := Lib.hid hT
  have HTC := Lib.hid hTC
  obtain ⟨D, hD⟩ : ∃ D, b - a = D := ⟨_, rfl⟩
  rw [hD] at hT1
  obtain ⟨m1, m2, m3, m4, m5, m6⟩ := mxs D 1 T hT1
  have m1' : (if (D : Int) < 1 then 1 else (D : Int)) = (T : Int) := m1
  have m2' : (if D < 1 then 1 else (D : Int)) = (T : Int) := m2
  have m3' : max (D : Int) 1 = (T : Int) := m3
  have i1 : (b : Int) - (a : Int) = (D : Int) := by omega
  have hbi : (b : Int) ≤ 4611686018427387904 := by omega
  have hai : (a : Int) ≤ 4611686018427387904 := by omega
  obtain ⟨Z, hZ⟩ : ∃ Z, 64 * s.bytes = Z := ⟨_, rfl⟩
  have j1 : (64 : Int) * (s.bytes : Int) = (Z : Int) := by omega
  have hZ2 : Z ≤ 67108864 := by omega
  have j2 : (Z : Int) ≤ 67108864 := by omega
  have hbyi : (s.bytes : Int) ≤ 1048576 := by omega
  have hT0 : 0 < T := by omega
  have hT3 : T < 18446744073709551616 := by omega
  obtain ⟨Q, hQ⟩ : ∃ Q, Z * 1000000 / T = Q := ⟨_, rfl⟩
  have hQ2 : Q < 18446744073709551616 := by
    rw [← hQ]
    exact Nat.lt_of_le_of_lt (Nat.le_trans (Nat.div_le_self _ _) (Nat.mul_le_mul_right 1000000 hZ2)) (by decide)
  have HM : Hid (∀ W, Calls Tryz.prog 182 #[.int .u64 Z, .int .u64 1000000, .int .u64 T] W fun e w' => e = .returned (.int .u64 Q) ∧ ∃ k, w' = W.drewN k) := Lib.hid (fun W => by
    have h1 := fixMulDiv_any Z 1000000 T (by omega) (by decide) hT3 W
    rw [show M.mulDivT Z 1000000 T = Q by unfold M.mulDivT; rw [if_neg (by omega), hQ, if_pos hQ2]] at h1
    exact h1)
  rw [hZ, hQ]
  clear hZ hQ hQ2 hZ2 hT0 hT3 hD hT1 m1 m2 m3 m4 m5 m6 h hT hN hTC
  go_enter Tryz.func143, Tryz.ntmps143
  go_upto_region 4 with (go_at_call 179; (with_reducible refine HP.out.mono ?_); rintro e W1 ⟨rfl, h1, hk1⟩)
  have a1 := h1.head.2.1
  have a10 := h1.tail.2.2.2.2.2.2
  simp only at a1 a10
  rw [hs] at a10
  have h2 : ∀ n, FdAt { s with now := (b : Int) } (.slice p 0 c) C (W1.drewN n) := fun n => h1.below (bel_drewN _ n)
  have hk2 : ∀ n, Kept [C] w (W1.drewN n) := fun n => hk1.drewN n
  have H2 := Lib.hid h2
  have HK2 := Lib.hid hk2
  go_quiet (fail)
  obtain ⟨W2, hW2⟩ : ∃ W2, W1.drewN nq = W2 := ⟨_, rfl⟩
  have h3 := H2.out nq
  have HK3 := Lib.hid (HK2.out nq)
  rw [hW2] at h3 HK3 ⊢
  clear hW2 h1 hk1 h2 hk2 H2 HK2 a1 a10
  have b9 := h3.tail.2.2.2.2.2.1
  simp only at b9
  have H3 := Lib.hid h3
  clear h3
  go_upto_region 6 with (go_at_call 182; (with_reducible refine (HM.out _).mono ?_); rintro e W3 ⟨rfl, k, rfl⟩)
  obtain ⟨W3, hW3⟩ : ∃ W3, W2.drewN k = W3 := ⟨_, rfl⟩
  have h4 : FdAt { s with now := (b : Int) } (.slice p 0 c) C W3 := by rw [← hW3]; exact H3.out.below (bel_drewN _ k)
  have HK4 : Hid (Kept [C] w W3) := Lib.hid (by rw [← hW3]; exact HK3.out.drewN k)
  rw [hW3]
  clear hW3 b9 H3 HK3
  have a1 := h4.head.2.1
  have c9 := h4.tail.2.2.2.2.2.1
  have c10 := h4.tail.2.2.2.2.2.2
  simp only at a1 c9 c10
  have f9 := h4.blk.free 509
  have f10 := h4.blk.free 510
  have H4 := Lib.hid h4
  clear h4
  go_upto_region 7 with fail
  obtain ⟨W4, hW4⟩ : ∃ W4, (W3.setCell ⟨C, 509, none⟩ (.int .u64 0)).setCell ⟨C, 510, none⟩ (.int .i64 (b : Int)) = W4 := ⟨_, rfl⟩
  have h5 : FdAt (s.told b) (.slice p 0 c) C W4 := by
    rw [← hW4]
    exact (H4.out.setTail (t := { s with now := (b : Int), bytes := 0 }) (cl' := .slice p 0 c) 5 (by decide) _ rfl rfl rfl).setTail (t := s.told b) (cl' := .slice p 0 c) 6 (by decide) _ rfl rfl rfl
  have hk5 : Kept [C] w W4 := by rw [← hW4]; exact (HK4.out.setCell (.inl (by simp)) _).setCell (.inl (by simp)) _
  rw [hW4]
  clear hW4 a1 c9 c10 f9 f10 H4 HK4
  have HL := Lib.hid (feedLoss_none (s.told b) p c hc C W4 (HTAB.out.kept hk5 (by simpa using fun e => HTC.out e.symm)) h5)
  go_wp2_with (go_at_call 183; (with_reducible refine HL.out.mono ?_); rintro e W5 ⟨rfl, k5, rfl⟩)
  go_ret2
  exact ⟨rfl, h5.below (bel_drewN _ k5), hk5.drewN k5⟩
end Go.Proofs.YtnhlachoimlhhaaGreatDoor
