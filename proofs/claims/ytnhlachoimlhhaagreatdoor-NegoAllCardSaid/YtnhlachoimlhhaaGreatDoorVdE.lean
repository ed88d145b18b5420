/-
  Package valid: what ends now.
-/
import Derived.Test.YtnhlachoimlhhaaGreatDoorVdA
namespace Go.Proofs.YtnhlachoimlhhaaGreatDoor
open Go.ChangeShapes Go.WideShapes Go.ChangeAt Go.RowKit
set_option linter.unusedVariables false
set_option linter.unusedSimpArgs false

theorem swl_lt (v : Vw) : v.swl < 18446744073709551616 := Nat.lt_trans (maxN_lt _ _) (by decide)
theorem awl_lt (v : Vw) : v.awl < 18446744073709551616 := Nat.lt_trans (maxN_lt _ _) (by decide)
theorem swh_lt (v : Vw) : v.swh < 18446744073709551616 := Nat.lt_trans (stepN_lt _ _) (by decide)
theorem awh_lt (v : Vw) : v.awh < 18446744073709551616 := Nat.lt_trans (Nat.mod_lt _ (by decide)) (by decide)
set_option maxHeartbeats 1000000 in
set_option maxRecDepth 100000 in
theorem vdEndsNow_any (v : Vw) (hv : v.Ok) (h : Hd) (hs : h.seq < 18446744073709551616) (ha : h.ack < 18446744073709551616) (w : World) :
    Calls Tryz.prog 117 #[v.val, h.val] w fun e w' => e = .returned (.bool (v.endB h)) ∧ Below w.heap.size w w' := by
  have HW := Lib.hid (fun W => vdWindows_any v hv W)
  have HS : Hid (∀ W, Calls Tryz.prog 101 #[.int .u64 v.gsr, .int .i64 1] W fun e w' => e = .returned (.int .u64 (stepN v.gsr 1 : Nat)) ∧ W = w') := Lib.hid (fun W => by rw [stepN_int]; exact seqAdd_any v.gsr 1 hv.gsr (by decide) (by decide) W)
  have HI := Lib.hid (fun W => seqIn_any (stepN v.gsr 1) h.seq v.swh (by have := stepN_lt v.gsr 1; omega) hs (swh_lt v) W)
  have HJ := Lib.hid (fun W => seqIn_any v.gar h.ack v.awh hv.gar ha (awh_lt v) W)
  have e : v.endB h = (inB (stepN v.gsr 1) h.seq v.swh && inB v.gar h.ack v.awh) := rfl
  rw [e]
  clear e
  generalize inB (stepN v.gsr 1) h.seq v.swh = b1 at *
  generalize inB v.gar h.ack v.awh = b2 at *
  generalize stepN v.gsr 1 = g1 at *
  generalize v.swl = sl at *
  generalize v.swh = sh at *
  generalize v.awl = al at *
  generalize v.awh = ah at *
  obtain ⟨B, W, hB, hW, hvh, hbw⟩ := vh_new v h w
  have HVH := Lib.hid hvh
  have HBW := Lib.hid hbw
  unfold Vw.val Hd.val
  cases b1
  · go_enter Tryz.func117, Tryz.ntmps117
    go_upto_region 1 with fail
    clear hW hB hvh hbw
    go_upto_region 2 with (first
      | (refine load_vw rfl _ rfl w.heap.size rfl v HVH.out.vw ?_)
      | (go_at_call 59; (with_reducible refine (HW.out _).mono ?_); rintro e w1 ⟨rfl, hb1⟩; obtain ⟨_, c2, c3, _, c8, c9⟩ := (HVH.out.below hb1).cells))
    clear HVH HW
    go_quiet ((first
      | (go_at_call 101; exact Calls.quiet_of_same ((HS.out _).mono fun e w' ⟨q1, q2⟩ => ⟨q1, q2.symm⟩))
      | (go_at_call 154; exact Calls.quiet_of_same ((HI.out _).mono fun e w' ⟨q1, q2⟩ => ⟨q1, q2.symm⟩))))
    go_wp2
    go_ret
    exact ⟨rfl, bel_trans HBW.out (bel_trans hb1 (bel_drewN _ _))⟩
  · go_enter Tryz.func117, Tryz.ntmps117
    go_upto_region 1 with fail
    clear hW hB hvh hbw
    go_upto_region 2 with (first
      | (refine load_vw rfl _ rfl w.heap.size rfl v HVH.out.vw ?_)
      | (go_at_call 59; (with_reducible refine (HW.out _).mono ?_); rintro e w1 ⟨rfl, hb1⟩; obtain ⟨_, c2, c3, _, c8, c9⟩ := (HVH.out.below hb1).cells))
    apply wp_one_end
    case h1 =>
      go_region_with (first
        | (go_at_call 101; (with_reducible refine (HS.out _).mono ?_); rintro e w2 ⟨rfl, rfl⟩)
        | (go_at_call 154; (first | (with_reducible refine (HI.out _).mono ?_) | (with_reducible refine (HJ.out _).mono ?_)); rintro e w2 ⟨rfl, rfl⟩))
      all_goals exact ⟨rfl, rfl⟩
    go_wp2
    go_ret
    exact ⟨rfl, bel_trans HBW.out (bel_trans hb1 (bel_drewN _ 1))⟩
end Go.Proofs.YtnhlachoimlhhaaGreatDoor
