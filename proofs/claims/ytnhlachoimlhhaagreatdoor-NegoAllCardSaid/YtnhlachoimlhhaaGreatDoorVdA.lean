/-
  What the functions of package valid come to, of packets without options.
-/
import Derived.Test.YtnhlachoimlhhaaGreatDoorVdM
import Derived.Test.YtnhlachoimlhhaaGreatDoorPkW
import Derived.Test.YtnhlachoimlhhaaGreatDoorBlk
import Derived.BigQuiet
namespace Go.Proofs.YtnhlachoimlhhaaGreatDoor
open Go.ChangeShapes Go.WideShapes Go.ChangeAt Go.RowKit
set_option linter.unusedVariables false
set_option linter.unusedSimpArgs false

theorem vwCells_val (v : Vw) : v.val = .agg (vwCells v) := rfl
theorem infoVw : (Tryz.prog.info? 59).map (·.size) = some 8 := by kernel_rfl
/-- A view at A, a head at B. -/
structure VhAt (v : Vw) (h : Hd) (A B : Nat) (W : World) : Prop where
  vw : BlkIs (vwCells v) 59 A W
  hd : BlkIs h.cellsA 66 B W
theorem VhAt.below {v : Vw} {h : Hd} {A B : Nat} {W W' : World} (a : VhAt v h A B W) (b : Below W.heap.size W W') : VhAt v h A B W' := ⟨a.vw.below b, a.hd.below b⟩
theorem VhAt.drewN {v : Vw} {h : Hd} {A B : Nat} {W : World} (a : VhAt v h A B W) (n : Nat) : VhAt v h A B (W.drewN n) := ⟨a.vw.drewN n, a.hd.drewN n⟩
theorem VhAt.cells {v : Vw} {h : Hd} {A B : Nat} {W : World} (a : VhAt v h A B W) : W.cell? ⟨A, 0, none⟩ = some (.int .i64 v.state) ∧ W.cell? ⟨A, 2, none⟩ = some (.int .u64 v.gsr) ∧ W.cell? ⟨A, 3, none⟩ = some (.int .u64 v.gar) ∧ W.cell? ⟨B, 6, none⟩ = some (.int .i64 h.type) ∧ W.cell? ⟨B, 8, none⟩ = some (.int .u64 h.seq) ∧ W.cell? ⟨B, 9, none⟩ = some (.int .u64 h.ack) := by
  rw [a.vw.cell, a.vw.cell, a.vw.cell, a.hd.cell, a.hd.cell, a.hd.cell]
  exact ⟨rfl, rfl, rfl, rfl, rfl, rfl⟩
/-- Both are boxed. -/
theorem vh_new (v : Vw) (h : Hd) (w : World) : ∃ B W, (w.alloc (.cells #[.int .i64 v.state, .int .u64 v.gss, .int .u64 v.gsr, .int .u64 v.gar, .int .u64 v.iss, .int .u64 v.isr, .int .i64 v.mine, .int .i64 v.theirs] 59)).heap.size = B ∧
    (w.alloc (.cells #[.int .i64 v.state, .int .u64 v.gss, .int .u64 v.gsr, .int .u64 v.gar, .int .u64 v.iss, .int .u64 v.isr, .int .i64 v.mine, .int .i64 v.theirs] 59)).alloc (.cells #[.int .i64 h.src, .int .i64 h.dst, .int .i64 h.off, .int .i64 h.cc, .int .i64 h.cs, .int .i64 h.sum, .int .i64 h.type, .bool h.x, .int .u64 h.seq, .int .u64 h.ack, .int .u32 h.service, .int .i64 h.code, .int .u8 h.i0, .int .u8 h.i1, .int .u8 h.i2] 66) = W ∧
    VhAt v h w.heap.size B W ∧ Below w.heap.size w W :=
  ⟨_, _, rfl, rfl, ⟨BlkIs.alloc (BlkIs.new (vwCells v) _ w) _, BlkIs.new h.cellsA _ _⟩, bel_trans (bel_alloc _ _) (bel_alloc _ _)⟩
/-- A whole view loaded, guarded or not. -/
theorem load_vw {ops : Array Oper} {rest : List Oper} {o : Oper} {a : Act} {w : World} {Q : Exit → Act → World → Prop} (hgd : Region.wanted o (yielded ops a.tmps) = true) (x : Operand) (ho : o.op = .load 59 x)
    (C : Nat) (hx : a.eval x = .pointer (some ⟨C, 0, none⟩)) (v : Vw) (hb : BlkIs (vwCells v) 59 C w)
    (hh : wpList Tryz.prog ops Q rest (a.put o.dst v.val) w) : wpList Tryz.prog ops Q (o :: rest) a w :=
  BigFrame.wpList_want hgd fun _ hK => wp_load_row 59 x ho C hx 59 (vwCells v) (0, 0) _ hb Tryz.underlying59 rfl infoVw (hK _ _ hh)
/-- A whole head loaded, guarded or not. -/
theorem load_hv {ops : Array Oper} {rest : List Oper} {o : Oper} {a : Act} {w : World} {Q : Exit → Act → World → Prop} (hgd : Region.wanted o (yielded ops a.tmps) = true) (x : Operand) (ho : o.op = .load 66 x)
    (C : Nat) (hx : a.eval x = .pointer (some ⟨C, 0, none⟩)) (h : Hd) (hb : BlkIs h.cellsA 66 C w)
    (hh : wpList Tryz.prog ops Q rest (a.put o.dst h.val) w) : wpList Tryz.prog ops Q (o :: rest) a w :=
  BigFrame.wpList_want hgd fun _ hK => wp_load_row 66 x ho C hx 66 h.cellsA (0, 0) _ hb Tryz.underlying66 rfl infoHd (hK _ _ hh)
theorem vwCells_one (v : Vw) : (vwCells v).all (·.oneCell') = true := by simp [vwCells, Value.oneCell']
def Vw.zero : Vw := ⟨0, 0, 0, 0, 0, 0, 0, 0⟩
theorem store_vw {ops : Array Oper} {rest : List Oper} {o : Oper} {a : Act} {w : World} {Q : Exit → Act → World → Prop} (hgd : o.guard = none) (x y : Operand) (ho : o.op = .store 59 x y)
    (C : Nat) (v v2 : Vw) (hx : a.eval x = .pointer (some ⟨C, 0, none⟩)) (hy : a.eval y = v2.val) (hb : BlkIs (vwCells v) 59 C w)
    (hh : ∀ w', BlkIs (vwCells v2) 59 C w' → w.grownBy w' (some C) → wpList Tryz.prog ops Q rest (a.put o.dst undef) w') : wpList Tryz.prog ops Q (o :: rest) a w :=
  wpList_store_row hgd 59 x y ho C (vwCells v2) hx hy 59 (vwCells v) hb infoVw rfl (vwCells_one _) (hh _ (setRow_heap w C _ _ _ _ hb) (grown_setRow _ _ _))
/-- A drawn region whose orders all end at one place: the place is found at the first one. -/
theorem wp_one_end {P : Program} {c : Code} {Q : Exit → Act → World → Prop} {a a0 : Act} {w w0 : World} (h1 : c.wp P (fun e a' w' => match e with | .normal => a' = a0 ∧ w' = w0 | _ => False) a w) (h2 : Q .normal a0 w0) : c.wp P Q a w :=
  Code.wp_mono (fun e a' w' h3 => by
    cases e with
    | normal => obtain ⟨rfl, rfl⟩ := h3; exact h2
    | _ => exact h3.elim) h1
theorem vdWindow_any (n : Int) (h1 : -9223372036854775808 ≤ n) (h2 : n ≤ 9223372036854775807) (w : World) :
    Calls Tryz.prog 99 #[.int .i64 n] w fun e w' => e = .returned (.int .i64 (winN n)) ∧ w = w' := by
  go_enter Tryz.func99, Tryz.ntmps99
  go_wp2
  all_goals
    go_ret
    exact ⟨M.ret_int (by unfold winN; repeat' split
                         all_goals omega), rfl⟩
theorem results_tmp4 {fn : Func} {t u v x : Tmp} (h : fn.results = #[.tmp t, .tmp u, .tmp v, .tmp x]) (tmps : Array Value) (P : Program) (w : World) :
    (results fn tmps).run P w = .ok (.tuple #[tmps.getD t undef, tmps.getD u undef, tmps.getD v undef, tmps.getD x undef]) w := by
  simp [results, h]
theorem vdMax_at (a b : Nat) (ha : a < 18446744073709551616) (hb : b < 18446744073709551616) (W : World) :
    Calls Tryz.prog 100 #[.int .u64 a, .slice (some ⟨W.heap.size, 0, none⟩) 1 1] (W.alloc (.cells #[.int .u64 b] 55)) fun e w' => e = .returned (.int .u64 (maxN a b : Nat)) ∧ W.alloc (.cells #[.int .u64 b] 55) = w' := by
  have hb0 := BlkIs.new #[.int .u64 b] 55 W
  have h := seqMax_any a ha ⟨W.heap.size, 0, none⟩ [b] 1 (by intro x hx; simp at hx; omega) (by simp) (W.alloc (.cells #[.int .u64 b] 55)) (fun i hi => by
    have hi0 : i < 1 := hi
    obtain rfl : i = 0 := by omega
    have h1 := hb0.cell 0
    exact h1)
  exact h
theorem vdMax_any (a b : Nat) (ha : a < 18446744073709551616) (hb : b < 18446744073709551616) (X : World) (n : Nat) :
    Calls Tryz.prog 100 #[.int .u64 a, .slice (some ⟨X.heap.size, 0, none⟩) 1 1] ((X.drewN n).alloc (.cells #[.int .u64 b] 55)) fun e w' => e = .returned (.int .u64 (maxN a b : Nat)) ∧ (X.drewN n).alloc (.cells #[.int .u64 b] 55) = w' := vdMax_at a b ha hb (X.drewN n)
theorem vdMax_drew (a b : Nat) (ha : a < 18446744073709551616) (hb : b < 18446744073709551616) (X : World) :
    Calls Tryz.prog 100 #[.int .u64 a, .slice (some ⟨X.heap.size, 0, none⟩) 1 1] (X.alloc (.cells #[.int .u64 b] 55)).drew fun e w' => e = .returned (.int .u64 (maxN a b : Nat)) ∧ (X.alloc (.cells #[.int .u64 b] 55)).drew = w' := vdMax_at a b ha hb X.drew
set_option maxHeartbeats 2000000 in
set_option maxRecDepth 100000 in
theorem vdWindows_any (v : Vw) (hv : v.Ok) (w : World) :
    Calls Tryz.prog 59 #[v.val] w fun e w' => e = .returned (.tuple #[.int .u64 v.swl, .int .u64 v.swh, .int .u64 v.awl, .int .u64 v.awh]) ∧ Below w.heap.size w w' := by
  have HW1 := Lib.hid (fun W => vdWindow_any v.mine hv.mine.1 hv.mine.2 W)
  have HW2 := Lib.hid (fun W => vdWindow_any v.theirs hv.theirs.1 hv.theirs.2 W)
  have hm := winN_in v.mine
  have ht := winN_in v.theirs
  obtain ⟨sl, hsl⟩ : ∃ x, v.swl = x := ⟨_, rfl⟩
  obtain ⟨sh, hsh⟩ : ∃ x, v.swh = x := ⟨_, rfl⟩
  obtain ⟨al, hal⟩ : ∃ x, v.awl = x := ⟨_, rfl⟩
  rw [hsl, hsh, hal]
  unfold Vw.swl at hsl
  unfold Vw.swh at hsh
  unfold Vw.awl at hal
  obtain ⟨M0, hM0⟩ : ∃ x, winN v.mine = x := ⟨_, rfl⟩
  obtain ⟨T0, hT0⟩ : ∃ x, winN v.theirs = x := ⟨_, rfl⟩
  rw [hM0] at HW1 hm hal
  rw [hT0] at HW2 ht hsl hsh
  have la := stepN_lt v.gsr (1 - T0 / 4)
  have lb := stepN_lt v.gss (1 - M0)
  have HA : Hid (∀ W, Calls Tryz.prog 101 #[.int .u64 v.gsr, .int .i64 (1 - T0 / 4)] W fun e w' => e = .returned (.int .u64 (stepN v.gsr (1 - T0 / 4) : Nat)) ∧ W = w') := Lib.hid (fun W => by rw [stepN_int]; exact seqAdd_any v.gsr (1 - T0 / 4) hv.gsr (by omega) (by omega) W)
  have HB : Hid (∀ W, Calls Tryz.prog 101 #[.int .u64 v.gsr, .int .i64 (3 * T0 / 4)] W fun e w' => e = .returned (.int .u64 (sh : Nat)) ∧ W = w') := Lib.hid (fun W => by rw [← hsh, stepN_int]; exact seqAdd_any v.gsr (3 * T0 / 4) hv.gsr (by omega) (by omega) W)
  have HC : Hid (∀ W, Calls Tryz.prog 101 #[.int .u64 v.gss, .int .i64 (1 - M0)] W fun e w' => e = .returned (.int .u64 (stepN v.gss (1 - M0) : Nat)) ∧ W = w') := Lib.hid (fun W => by rw [stepN_int]; exact seqAdd_any v.gss (1 - M0) hv.gss (by omega) (by omega) W)
  have HMA := Lib.hid (fun W n => vdMax_any (stepN v.gsr (1 - T0 / 4)) v.isr (by omega) hv.isr W n)
  have HMB := Lib.hid (fun W => vdMax_drew (stepN v.gss (1 - M0)) v.iss (by omega) hv.iss W)
  rw [hsl] at HMA
  rw [hal] at HMB
  have HO : Hid (∀ W, Calls Tryz.prog 82 #[.int .u64 v.gss] W fun e w' => e = .returned (.int .u64 (v.awh : Nat)) ∧ W = w') := Lib.hid (fun W => seqOf_any v.gss hv.gss W)
  generalize v.awh = ah at *
  generalize stepN v.gsr (1 - T0 / 4) = A at *
  generalize stepN v.gss (1 - M0) = B at *
  clear hsl hsh hal hM0 hT0
  have hbx := BlkIs.new (vwCells v) 59 w
  have HB0 : Hid (Below w.heap.size w (w.alloc (.cells (vwCells v) 59))) := Lib.hid (bel_alloc _ _)
  have hvc : vwCells v = #[.int .i64 v.state, .int .u64 v.gss, .int .u64 v.gsr, .int .u64 v.gar, .int .u64 v.iss, .int .u64 v.isr, .int .i64 v.mine, .int .i64 v.theirs] := rfl
  obtain ⟨W, hW⟩ : ∃ W, w.alloc (.cells (vwCells v) 59) = W := ⟨_, rfl⟩
  rw [hW] at hbx HB0
  rw [hvc] at hW
  have c1 : W.cell? ⟨w.heap.size, 1, none⟩ = some (.int .u64 v.gss) := hbx.cell 1
  have c2 : W.cell? ⟨w.heap.size, 2, none⟩ = some (.int .u64 v.gsr) := hbx.cell 2
  have c4 : W.cell? ⟨w.heap.size, 4, none⟩ = some (.int .u64 v.iss) := hbx.cell 4
  have c5 : W.cell? ⟨w.heap.size, 5, none⟩ = some (.int .u64 v.isr) := hbx.cell 5
  have c6 : W.cell? ⟨w.heap.size, 6, none⟩ = some (.int .i64 v.mine) := hbx.cell 6
  have c7 : W.cell? ⟨w.heap.size, 7, none⟩ = some (.int .i64 v.theirs) := hbx.cell 7
  have HBX := Lib.hid hbx
  have k2 : ∀ n, ((W.drewN n).alloc (.cells #[.int .u64 v.isr] 55)).cell? ⟨w.heap.size, 2, none⟩ = some (.int .u64 v.gsr) := fun n => ((hbx.drewN n).alloc _).cell 2
  clear hbx hvc
  have q1 : IntKind.i64.wrap (T0.tdiv 4) = T0 / 4 := by rw [Int.tdiv_eq_ediv_of_nonneg (by omega), IntKind.wrap_i64]; omega
  have q2 : IntKind.i64.wrap (1 - T0 / 4) = 1 - T0 / 4 := by rw [IntKind.wrap_i64]; omega
  have q3 : IntKind.i64.wrap (1 - M0) = 1 - M0 := by rw [IntKind.wrap_i64]; omega
  unfold Vw.val
  go_enter Tryz.func59, Tryz.ntmps59
  go_upto_region 1 with fail
  clear hW
  go_quiet ((go_at_call 99; (first
    | exact Calls.quiet_of_same ((HW1.out _).mono fun e w' ⟨q1, q2⟩ => ⟨q1, q2.symm⟩)
    | exact Calls.quiet_of_same ((HW2.out _).mono fun e w' ⟨q1, q2⟩ => ⟨q1, q2.symm⟩))))
  go_upto_region 2 with fail
  apply wp_one_end
  case h1 =>
    go_region_with (first
      | (go_at_call 101; (with_reducible refine (HA.out _).mono ?_); rintro e w1 ⟨rfl, rfl⟩)
      | (go_at_call 100; (with_reducible refine (HMA.out _ _).mono ?_); rintro e w1 ⟨rfl, rfl⟩))
    all_goals exact ⟨rfl, rfl⟩
  obtain ⟨Y, hY⟩ : ∃ Y, (W.drewN (nq + 1)).alloc (.cells #[.int .u64 v.isr] 55) = Y := ⟨_, rfl⟩
  have hby := (HBX.out.drewN (nq + 1)).alloc (.cells #[.int .u64 v.isr] 55)
  have HBY : Hid (Below w.heap.size w Y) := Lib.hid (by rw [← hY]; exact bel_trans HB0.out (bel_trans (bel_drewN _ _) (bel_alloc _ _)))
  rw [hY] at hby
  rw [hY]
  clear hY c1 c2 c4 c5 c6 c7 k2 HBX HB0 HMA HA q1 q2
  have c1 : Y.cell? ⟨w.heap.size, 1, none⟩ = some (.int .u64 v.gss) := hby.cell 1
  have c2 : Y.cell? ⟨w.heap.size, 2, none⟩ = some (.int .u64 v.gsr) := hby.cell 2
  have c4 : Y.cell? ⟨w.heap.size, 4, none⟩ = some (.int .u64 v.iss) := hby.cell 4
  have k1 : (Y.alloc (.cells #[.int .u64 v.iss] 55)).cell? ⟨w.heap.size, 1, none⟩ = some (.int .u64 v.gss) := (hby.alloc _).cell 1
  have HBY2 := Lib.hid hby
  clear hby
  go_upto_region 4 with (go_at_call 101; (with_reducible refine (HB.out _).mono ?_); rintro e w1 ⟨rfl, rfl⟩)
  clear HB
  apply wp_one_end
  case h1 =>
    go_region_with (first
      | (go_at_call 101; (with_reducible refine (HC.out _).mono ?_); rintro e w1 ⟨rfl, rfl⟩)
      | (go_at_call 100; (with_reducible refine (HMB.out _).mono ?_); rintro e w1 ⟨rfl, rfl⟩))
    all_goals exact ⟨rfl, rfl⟩
  go_wp2_with (go_at_call 82; (with_reducible refine (HO.out _).mono ?_); rintro e w1 ⟨rfl, rfl⟩)
  (try simp only [Exit.inBlock, Exit.then]); refine bodyPost_ret (results_tmp4 rfl _ _ _) rfl ?_
  exact ⟨rfl, bel_trans HBY.out (bel_trans (bel_alloc _ _) (bel_drewN _ 1))⟩
end Go.Proofs.YtnhlachoimlhhaaGreatDoor
