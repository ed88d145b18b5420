/-
  Package valid: what fits.
-/
import Derived.Test.YtnhlachoimlhhaaGreatDoorVdE
namespace Go.Proofs.YtnhlachoimlhhaaGreatDoor
open Go.ChangeShapes Go.WideShapes Go.ChangeAt Go.RowKit
set_option linter.unusedVariables false
set_option linter.unusedSimpArgs false

set_option maxRecDepth 100000 in
theorem vdSeqFits_any (v : Vw) (hv : v.Ok) (h : Hd) (hs : h.seq < 18446744073709551616) (w : World) :
    Calls Tryz.prog 116 #[v.val, h.val] w fun e w' => e = .returned (.bool (v.seqB h)) ∧ Below w.heap.size w w' := by
  have HW := Lib.hid (fun W => vdWindows_any v hv W)
  have HI := Lib.hid (fun W => seqIn_any v.swl h.seq v.swh (swl_lt v) hs (swh_lt v) W)
  have e : inB v.swl h.seq v.swh = v.seqB h := rfl
  rw [e] at HI
  generalize v.seqB h = b at *
  generalize v.swl = sl at *
  generalize v.swh = sh at *
  generalize v.awl = al at *
  generalize v.awh = ah at *
  clear e
  obtain ⟨B, W, hB, hW, hvh, hbw⟩ := vh_new v h w
  have HVH := Lib.hid hvh
  have HBW := Lib.hid hbw
  unfold Vw.val Hd.val
  go_enter Tryz.func116, Tryz.ntmps116
  go_upto_region 1 with fail
  clear hW hB hvh hbw
  go_upto_region 2 with (first
    | (refine load_vw rfl _ rfl w.heap.size rfl v HVH.out.vw ?_)
    | (go_at_call 59; (with_reducible refine (HW.out _).mono ?_); rintro e w1 ⟨rfl, hb1⟩; have c8 := (HVH.out.below hb1).cells.2.2.2.2.1))
  go_wp2_with (go_at_call 154; (with_reducible refine (HI.out _).mono ?_); rintro e w2 ⟨rfl, rfl⟩)
  go_ret
  exact ⟨rfl, bel_trans HBW.out hb1⟩
set_option maxRecDepth 100000 in
theorem vdAckFits_any (v : Vw) (hv : v.Ok) (h : Hd) (ha : h.ack < 18446744073709551616) (w : World) :
    Calls Tryz.prog 114 #[v.val, h.val] w fun e w' => e = .returned (.bool (v.ackB h)) ∧ Below w.heap.size w w' := by
  have HW := Lib.hid (fun W => vdWindows_any v hv W)
  have HI := Lib.hid (fun W => seqIn_any v.awl h.ack v.awh (awl_lt v) ha (awh_lt v) W)
  have e : inB v.awl h.ack v.awh = v.ackB h := rfl
  rw [e] at HI
  generalize v.ackB h = b at *
  generalize v.swl = sl at *
  generalize v.swh = sh at *
  generalize v.awl = al at *
  generalize v.awh = ah at *
  clear e
  obtain ⟨B, W, hB, hW, hvh, hbw⟩ := vh_new v h w
  have HVH := Lib.hid hvh
  have HBW := Lib.hid hbw
  unfold Vw.val Hd.val
  go_enter Tryz.func114, Tryz.ntmps114
  go_upto_region 1 with fail
  clear hW hB hvh hbw
  go_upto_region 2 with (first
    | (refine load_vw rfl _ rfl w.heap.size rfl v HVH.out.vw ?_)
    | (go_at_call 59; (with_reducible refine (HW.out _).mono ?_); rintro e w1 ⟨rfl, hb1⟩; have c9 := (HVH.out.below hb1).cells.2.2.2.2.2))
  go_wp2_with (go_at_call 154; (with_reducible refine (HI.out _).mono ?_); rintro e w2 ⟨rfl, rfl⟩)
  go_ret
  exact ⟨rfl, bel_trans HBW.out hb1⟩
theorem vdIsSync_any (t : Int) (w : World) :
    Calls Tryz.prog 115 #[.int .i64 t] w fun e w' => e = .returned (.bool (isSyncB t)) ∧ w = w' := by
  unfold isSyncB
  by_cases h8 : t = 8
  · subst h8
    go_enter Tryz.func115, Tryz.ntmps115
    go_wp2
    go_ret
    exact ⟨rfl, rfl⟩
  by_cases h9 : t = 9
  · subst h9
    go_enter Tryz.func115, Tryz.ntmps115
    go_wp2
    go_ret
    exact ⟨rfl, rfl⟩
  go_enter Tryz.func115, Tryz.ntmps115
  go_wp2
  go_ret
  exact ⟨M.ret_bool (by simp [h8, h9]), rfl⟩
theorem vdElseOf_any (t : Int) (w : World) :
    Calls Tryz.prog 80 #[.int .i64 t] w fun e w' => e = .returned (.int .i64 (if isSyncB t = true then 3 else 2)) ∧ w = w' := by
  have H := Lib.hid (fun W => vdIsSync_any t W)
  cases h : isSyncB t
  all_goals
    rw [h] at H
    go_enter Tryz.func80, Tryz.ntmps80
    go_wp2_with (go_at_call 115; (with_reducible refine (H.out _).mono ?_); rintro e w2 ⟨rfl, rfl⟩)
    go_ret
    exact ⟨rfl, rfl⟩
theorem vdGoodOr_any (o : Int) (b : Bool) (w : World) :
    Calls Tryz.prog 78 #[.int .i64 o, .bool b] w fun e w' => e = .returned (.int .i64 (if b = true then 1 else o)) ∧ w = w' := by
  cases b
  all_goals
    go_enter Tryz.func78, Tryz.ntmps78
    go_wp2
    go_ret
    exact ⟨rfl, rfl⟩
set_option maxRecDepth 100000 in
theorem vdAnswers_any (v : Vw) (hv : v.Ok) (h : Hd) (ha : h.ack < 18446744073709551616) (w : World) :
    Calls Tryz.prog 79 #[v.val, h.val] w fun e w' => e = .returned (.bool ((decide (h.type = 1) || decide (h.type = 7)) && v.ackB h)) ∧ Below w.heap.size w w' := by
  have HA := Lib.hid (fun W => vdAckFits_any v hv h ha W)
  generalize v.ackB h = b at *
  obtain ⟨B, W, hB, hW, hvh, hbw⟩ := vh_new v h w
  have HVH := Lib.hid hvh
  have HBW := Lib.hid hbw
  unfold Vw.val Hd.val
  obtain ⟨_, _, _, c6, _, _⟩ := hvh.cells
  obtain ⟨T, hT⟩ : ∃ T, h.type = T := ⟨_, rfl⟩
  rw [hT] at c6 hW ⊢
  by_cases h1 : T = 1
  · subst h1
    go_enter Tryz.func79, Tryz.ntmps79
    go_upto_region 1 with fail
    clear hW hB hvh hbw
    go_wp2_with (first
      | (refine load_vw rfl _ rfl w.heap.size rfl v HVH.out.vw ?_)
      | (refine load_hv rfl _ rfl B rfl h HVH.out.hd ?_)
      | (go_at_call 114; (with_reducible refine (HA.out _).mono ?_); rintro e w2 ⟨rfl, hb2⟩))
    go_ret
    exact ⟨M.ret_bool (by simp), bel_trans HBW.out hb2⟩
  by_cases h7 : T = 7
  · subst h7
    go_enter Tryz.func79, Tryz.ntmps79
    go_upto_region 1 with fail
    clear hW hB hvh hbw
    go_wp2_with (first
      | (refine load_vw rfl _ rfl w.heap.size rfl v HVH.out.vw ?_)
      | (refine load_hv rfl _ rfl B rfl h HVH.out.hd ?_)
      | (go_at_call 114; (with_reducible refine (HA.out _).mono ?_); rintro e w2 ⟨rfl, hb2⟩))
    go_ret
    exact ⟨M.ret_bool (by simp), bel_trans HBW.out hb2⟩
  · have n1 : decide (T = 1) = false := decide_eq_false h1
    have n7 : decide (T = 7) = false := decide_eq_false h7
    go_enter Tryz.func79, Tryz.ntmps79
    go_upto_region 1 with fail
    clear hW hB hvh hbw
    go_wp2_with (first
      | (refine load_vw rfl _ rfl w.heap.size rfl v HVH.out.vw ?_)
      | (refine load_hv rfl _ rfl B rfl h HVH.out.hd ?_)
      | (go_at_call 114; (with_reducible refine (HA.out _).mono ?_); rintro e w2 ⟨rfl, hb2⟩))
    go_ret
    exact ⟨M.ret_bool (by simp [h1, h7]), HBW.out⟩
set_option maxHeartbeats 4000000 in
set_option maxRecDepth 100000 in
theorem vdFits_any (v : Vw) (hv : v.Ok) (h : Hd) (hs : h.seq < 18446744073709551616) (ha : h.ack < 18446744073709551616) (w : World) :
    Calls Tryz.prog 81 #[v.val, h.val] w fun e w' => e = .returned (.bool (v.fitsB h)) ∧ Below w.heap.size w w' := by
  have HS := Lib.hid (fun W => vdSeqFits_any v hv h hs W)
  have HA := Lib.hid (fun W => vdAckFits_any v hv h ha W)
  have HE := Lib.hid (fun W => vdEndsNow_any v hv h hs ha W)
  have HW := Lib.hid (fun W => vdWindows_any v hv W)
  have HL := Lib.hid (fun W => seqLess_any h.seq v.swl hs (swl_lt v) W)
  obtain ⟨F, hF⟩ : ∃ F, v.fitsB h = F := ⟨_, rfl⟩
  rw [hF]
  unfold Vw.fitsB at hF
  generalize v.seqB h = b1 at *
  generalize v.ackB h = b2 at *
  generalize v.endB h = b3 at *
  generalize decide (diffI h.seq v.swl < 0) = b4 at *
  generalize v.swl = sl at *
  generalize v.swh = sh at *
  generalize v.awl = al at *
  generalize v.awh = ah at *
  obtain ⟨B, W, hB, hW, hvh, hbw⟩ := vh_new v h w
  have HVH := Lib.hid hvh
  have HBW := Lib.hid hbw
  unfold Vw.val Hd.val
  obtain ⟨c0, _, _, c6, c8, _⟩ := hvh.cells
  obtain ⟨T, hT⟩ : ∃ T, h.type = T := ⟨_, rfl⟩
  rw [hT] at hF c6 hW ⊢
  obtain ⟨ST, hST⟩ : ∃ ST, v.state = ST := ⟨_, rfl⟩
  rw [hST] at hF c0
  have HST := Lib.hid hST
  clear hST
  rcases type_cases T with o | o | rfl | rfl | rfl | rfl | rfl | rfl | rfl | rfl | rfl | rfl
  case inl =>
    have n0 : ¬ T = 0 := by omega
    have n1 : ¬ T = 1 := by omega
    have n2 : ¬ T = 2 := by omega
    have n3 : ¬ T = 3 := by omega
    have n4 : ¬ T = 4 := by omega
    have n5 : ¬ T = 5 := by omega
    have n6 : ¬ T = 6 := by omega
    have n7 : ¬ T = 7 := by omega
    have n8 : ¬ T = 8 := by omega
    have n9 : ¬ T = 9 := by omega
    rw [if_neg (by omega), if_neg (by omega), if_neg (by omega), if_neg (by omega), if_neg (by omega)] at hF
    subst hF
    go_enter Tryz.func81, Tryz.ntmps81
    go_upto_region 1 with fail
    clear hW hB hvh hbw
    go_wp2
    go_ret
    exact ⟨rfl, HBW.out⟩
  case inr.inl =>
    have n0 : ¬ T = 0 := by omega
    have n1 : ¬ T = 1 := by omega
    have n2 : ¬ T = 2 := by omega
    have n3 : ¬ T = 3 := by omega
    have n4 : ¬ T = 4 := by omega
    have n5 : ¬ T = 5 := by omega
    have n6 : ¬ T = 6 := by omega
    have n7 : ¬ T = 7 := by omega
    have n8 : ¬ T = 8 := by omega
    have n9 : ¬ T = 9 := by omega
    rw [if_neg (by omega), if_neg (by omega), if_neg (by omega), if_neg (by omega), if_neg (by omega)] at hF
    subst hF
    go_enter Tryz.func81, Tryz.ntmps81
    go_upto_region 1 with fail
    clear hW hB hvh hbw
    go_wp2
    go_ret
    exact ⟨rfl, HBW.out⟩
  · rcases (Decidable.em (ST = 3)) with hst | hst
    · subst hst
      cases b1
      all_goals
        simp at hF
        subst hF
        go_enter Tryz.func81, Tryz.ntmps81
        go_upto_region 1 with fail
        clear hW hB hvh hbw
        go_wp2_with (first
          | (first | (refine load_vw rfl _ rfl w.heap.size rfl v (HVH.out.below hb1).vw ?_) | (refine load_vw rfl _ rfl w.heap.size rfl v (HVH.out.below hb4).vw ?_) | (refine load_vw rfl _ rfl w.heap.size rfl v HVH.out.vw ?_))
          | (first | (refine load_hv rfl _ rfl B rfl h (HVH.out.below hb1).hd ?_) | (refine load_hv rfl _ rfl B rfl h (HVH.out.below hb4).hd ?_) | (refine load_hv rfl _ rfl B rfl h HVH.out.hd ?_))
          | (go_at_call 116; (with_reducible refine (HS.out _).mono ?_); rintro e w1 ⟨rfl, hb1⟩)
          | (go_at_call 114; (with_reducible refine (HA.out _).mono ?_); rintro e w2 ⟨rfl, hb2⟩)
          | (go_at_call 117; (with_reducible refine (HE.out _).mono ?_); rintro e w3 ⟨rfl, hb3⟩)
          | (go_at_call 59; (with_reducible refine (HW.out _).mono ?_); rintro e w4 ⟨rfl, hb4⟩; have c8 := (HVH.out.below hb4).cells.2.2.2.2.1)
          | (go_at_call 118; (with_reducible refine (HL.out _).mono ?_); rintro e w5 ⟨rfl, rfl⟩))
        go_ret
        first | exact ⟨rfl, HBW.out⟩ | exact ⟨rfl, bel_trans HBW.out hb1⟩ | exact ⟨rfl, bel_trans HBW.out hb3⟩ | exact ⟨rfl, bel_trans HBW.out (bel_trans hb1 hb2)⟩ | exact ⟨rfl, bel_trans HBW.out (bel_trans hb4 hb2)⟩ | exact ⟨rfl, bel_trans HBW.out hb4⟩
    · cases b1
      all_goals
        simp [hst] at hF
        subst hF
        go_enter Tryz.func81, Tryz.ntmps81
        go_upto_region 1 with fail
        clear hW hB hvh hbw
        go_wp2_with (first
          | (first | (refine load_vw rfl _ rfl w.heap.size rfl v (HVH.out.below hb1).vw ?_) | (refine load_vw rfl _ rfl w.heap.size rfl v (HVH.out.below hb4).vw ?_) | (refine load_vw rfl _ rfl w.heap.size rfl v HVH.out.vw ?_))
          | (first | (refine load_hv rfl _ rfl B rfl h (HVH.out.below hb1).hd ?_) | (refine load_hv rfl _ rfl B rfl h (HVH.out.below hb4).hd ?_) | (refine load_hv rfl _ rfl B rfl h HVH.out.hd ?_))
          | (go_at_call 116; (with_reducible refine (HS.out _).mono ?_); rintro e w1 ⟨rfl, hb1⟩)
          | (go_at_call 114; (with_reducible refine (HA.out _).mono ?_); rintro e w2 ⟨rfl, hb2⟩)
          | (go_at_call 117; (with_reducible refine (HE.out _).mono ?_); rintro e w3 ⟨rfl, hb3⟩)
          | (go_at_call 59; (with_reducible refine (HW.out _).mono ?_); rintro e w4 ⟨rfl, hb4⟩; have c8 := (HVH.out.below hb4).cells.2.2.2.2.1)
          | (go_at_call 118; (with_reducible refine (HL.out _).mono ?_); rintro e w5 ⟨rfl, rfl⟩))
        go_ret
        first | exact ⟨rfl, HBW.out⟩ | exact ⟨rfl, bel_trans HBW.out hb1⟩ | exact ⟨rfl, bel_trans HBW.out hb3⟩ | exact ⟨rfl, bel_trans HBW.out (bel_trans hb1 hb2)⟩ | exact ⟨rfl, bel_trans HBW.out (bel_trans hb4 hb2)⟩ | exact ⟨rfl, bel_trans HBW.out hb4⟩
  · skip
    all_goals
      simp at hF
      subst hF
      go_enter Tryz.func81, Tryz.ntmps81
      go_upto_region 1 with fail
      clear hW hB hvh hbw
      go_wp2_with (first
        | (first | (refine load_vw rfl _ rfl w.heap.size rfl v (HVH.out.below hb1).vw ?_) | (refine load_vw rfl _ rfl w.heap.size rfl v (HVH.out.below hb4).vw ?_) | (refine load_vw rfl _ rfl w.heap.size rfl v HVH.out.vw ?_))
        | (first | (refine load_hv rfl _ rfl B rfl h (HVH.out.below hb1).hd ?_) | (refine load_hv rfl _ rfl B rfl h (HVH.out.below hb4).hd ?_) | (refine load_hv rfl _ rfl B rfl h HVH.out.hd ?_))
        | (go_at_call 116; (with_reducible refine (HS.out _).mono ?_); rintro e w1 ⟨rfl, hb1⟩)
        | (go_at_call 114; (with_reducible refine (HA.out _).mono ?_); rintro e w2 ⟨rfl, hb2⟩)
        | (go_at_call 117; (with_reducible refine (HE.out _).mono ?_); rintro e w3 ⟨rfl, hb3⟩)
        | (go_at_call 59; (with_reducible refine (HW.out _).mono ?_); rintro e w4 ⟨rfl, hb4⟩; have c8 := (HVH.out.below hb4).cells.2.2.2.2.1)
        | (go_at_call 118; (with_reducible refine (HL.out _).mono ?_); rintro e w5 ⟨rfl, rfl⟩))
      go_ret
      first | exact ⟨rfl, HBW.out⟩ | exact ⟨rfl, bel_trans HBW.out hb1⟩ | exact ⟨rfl, bel_trans HBW.out hb3⟩ | exact ⟨rfl, bel_trans HBW.out (bel_trans hb1 hb2)⟩ | exact ⟨rfl, bel_trans HBW.out (bel_trans hb4 hb2)⟩ | exact ⟨rfl, bel_trans HBW.out hb4⟩
  · cases b1
    all_goals
      simp at hF
      subst hF
      go_enter Tryz.func81, Tryz.ntmps81
      go_upto_region 1 with fail
      clear hW hB hvh hbw
      go_wp2_with (first
        | (first | (refine load_vw rfl _ rfl w.heap.size rfl v (HVH.out.below hb1).vw ?_) | (refine load_vw rfl _ rfl w.heap.size rfl v (HVH.out.below hb4).vw ?_) | (refine load_vw rfl _ rfl w.heap.size rfl v HVH.out.vw ?_))
        | (first | (refine load_hv rfl _ rfl B rfl h (HVH.out.below hb1).hd ?_) | (refine load_hv rfl _ rfl B rfl h (HVH.out.below hb4).hd ?_) | (refine load_hv rfl _ rfl B rfl h HVH.out.hd ?_))
        | (go_at_call 116; (with_reducible refine (HS.out _).mono ?_); rintro e w1 ⟨rfl, hb1⟩)
        | (go_at_call 114; (with_reducible refine (HA.out _).mono ?_); rintro e w2 ⟨rfl, hb2⟩)
        | (go_at_call 117; (with_reducible refine (HE.out _).mono ?_); rintro e w3 ⟨rfl, hb3⟩)
        | (go_at_call 59; (with_reducible refine (HW.out _).mono ?_); rintro e w4 ⟨rfl, hb4⟩; have c8 := (HVH.out.below hb4).cells.2.2.2.2.1)
        | (go_at_call 118; (with_reducible refine (HL.out _).mono ?_); rintro e w5 ⟨rfl, rfl⟩))
      go_ret
      first | exact ⟨rfl, HBW.out⟩ | exact ⟨rfl, bel_trans HBW.out hb1⟩ | exact ⟨rfl, bel_trans HBW.out hb3⟩ | exact ⟨rfl, bel_trans HBW.out (bel_trans hb1 hb2)⟩ | exact ⟨rfl, bel_trans HBW.out (bel_trans hb4 hb2)⟩ | exact ⟨rfl, bel_trans HBW.out hb4⟩
  · cases b1 <;> cases b2
    all_goals
      simp at hF
      subst hF
      go_enter Tryz.func81, Tryz.ntmps81
      go_upto_region 1 with fail
      clear hW hB hvh hbw
      go_wp2_with (first
        | (first | (refine load_vw rfl _ rfl w.heap.size rfl v (HVH.out.below hb1).vw ?_) | (refine load_vw rfl _ rfl w.heap.size rfl v (HVH.out.below hb4).vw ?_) | (refine load_vw rfl _ rfl w.heap.size rfl v HVH.out.vw ?_))
        | (first | (refine load_hv rfl _ rfl B rfl h (HVH.out.below hb1).hd ?_) | (refine load_hv rfl _ rfl B rfl h (HVH.out.below hb4).hd ?_) | (refine load_hv rfl _ rfl B rfl h HVH.out.hd ?_))
        | (go_at_call 116; (with_reducible refine (HS.out _).mono ?_); rintro e w1 ⟨rfl, hb1⟩)
        | (go_at_call 114; (with_reducible refine (HA.out _).mono ?_); rintro e w2 ⟨rfl, hb2⟩)
        | (go_at_call 117; (with_reducible refine (HE.out _).mono ?_); rintro e w3 ⟨rfl, hb3⟩)
        | (go_at_call 59; (with_reducible refine (HW.out _).mono ?_); rintro e w4 ⟨rfl, hb4⟩; have c8 := (HVH.out.below hb4).cells.2.2.2.2.1)
        | (go_at_call 118; (with_reducible refine (HL.out _).mono ?_); rintro e w5 ⟨rfl, rfl⟩))
      go_ret
      first | exact ⟨rfl, HBW.out⟩ | exact ⟨rfl, bel_trans HBW.out hb1⟩ | exact ⟨rfl, bel_trans HBW.out hb3⟩ | exact ⟨rfl, bel_trans HBW.out (bel_trans hb1 hb2)⟩ | exact ⟨rfl, bel_trans HBW.out (bel_trans hb4 hb2)⟩ | exact ⟨rfl, bel_trans HBW.out hb4⟩
  · cases b1 <;> cases b2
    all_goals
      simp at hF
      subst hF
      go_enter Tryz.func81, Tryz.ntmps81
      go_upto_region 1 with fail
      clear hW hB hvh hbw
      go_wp2_with (first
        | (first | (refine load_vw rfl _ rfl w.heap.size rfl v (HVH.out.below hb1).vw ?_) | (refine load_vw rfl _ rfl w.heap.size rfl v (HVH.out.below hb4).vw ?_) | (refine load_vw rfl _ rfl w.heap.size rfl v HVH.out.vw ?_))
        | (first | (refine load_hv rfl _ rfl B rfl h (HVH.out.below hb1).hd ?_) | (refine load_hv rfl _ rfl B rfl h (HVH.out.below hb4).hd ?_) | (refine load_hv rfl _ rfl B rfl h HVH.out.hd ?_))
        | (go_at_call 116; (with_reducible refine (HS.out _).mono ?_); rintro e w1 ⟨rfl, hb1⟩)
        | (go_at_call 114; (with_reducible refine (HA.out _).mono ?_); rintro e w2 ⟨rfl, hb2⟩)
        | (go_at_call 117; (with_reducible refine (HE.out _).mono ?_); rintro e w3 ⟨rfl, hb3⟩)
        | (go_at_call 59; (with_reducible refine (HW.out _).mono ?_); rintro e w4 ⟨rfl, hb4⟩; have c8 := (HVH.out.below hb4).cells.2.2.2.2.1)
        | (go_at_call 118; (with_reducible refine (HL.out _).mono ?_); rintro e w5 ⟨rfl, rfl⟩))
      go_ret
      first | exact ⟨rfl, HBW.out⟩ | exact ⟨rfl, bel_trans HBW.out hb1⟩ | exact ⟨rfl, bel_trans HBW.out hb3⟩ | exact ⟨rfl, bel_trans HBW.out (bel_trans hb1 hb2)⟩ | exact ⟨rfl, bel_trans HBW.out (bel_trans hb4 hb2)⟩ | exact ⟨rfl, bel_trans HBW.out hb4⟩
  · cases b3
    all_goals
      simp at hF
      subst hF
      go_enter Tryz.func81, Tryz.ntmps81
      go_upto_region 1 with fail
      clear hW hB hvh hbw
      go_wp2_with (first
        | (first | (refine load_vw rfl _ rfl w.heap.size rfl v (HVH.out.below hb1).vw ?_) | (refine load_vw rfl _ rfl w.heap.size rfl v (HVH.out.below hb4).vw ?_) | (refine load_vw rfl _ rfl w.heap.size rfl v HVH.out.vw ?_))
        | (first | (refine load_hv rfl _ rfl B rfl h (HVH.out.below hb1).hd ?_) | (refine load_hv rfl _ rfl B rfl h (HVH.out.below hb4).hd ?_) | (refine load_hv rfl _ rfl B rfl h HVH.out.hd ?_))
        | (go_at_call 116; (with_reducible refine (HS.out _).mono ?_); rintro e w1 ⟨rfl, hb1⟩)
        | (go_at_call 114; (with_reducible refine (HA.out _).mono ?_); rintro e w2 ⟨rfl, hb2⟩)
        | (go_at_call 117; (with_reducible refine (HE.out _).mono ?_); rintro e w3 ⟨rfl, hb3⟩)
        | (go_at_call 59; (with_reducible refine (HW.out _).mono ?_); rintro e w4 ⟨rfl, hb4⟩; have c8 := (HVH.out.below hb4).cells.2.2.2.2.1)
        | (go_at_call 118; (with_reducible refine (HL.out _).mono ?_); rintro e w5 ⟨rfl, rfl⟩))
      go_ret
      first | exact ⟨rfl, HBW.out⟩ | exact ⟨rfl, bel_trans HBW.out hb1⟩ | exact ⟨rfl, bel_trans HBW.out hb3⟩ | exact ⟨rfl, bel_trans HBW.out (bel_trans hb1 hb2)⟩ | exact ⟨rfl, bel_trans HBW.out (bel_trans hb4 hb2)⟩ | exact ⟨rfl, bel_trans HBW.out hb4⟩
  · cases b3
    all_goals
      simp at hF
      subst hF
      go_enter Tryz.func81, Tryz.ntmps81
      go_upto_region 1 with fail
      clear hW hB hvh hbw
      go_wp2_with (first
        | (first | (refine load_vw rfl _ rfl w.heap.size rfl v (HVH.out.below hb1).vw ?_) | (refine load_vw rfl _ rfl w.heap.size rfl v (HVH.out.below hb4).vw ?_) | (refine load_vw rfl _ rfl w.heap.size rfl v HVH.out.vw ?_))
        | (first | (refine load_hv rfl _ rfl B rfl h (HVH.out.below hb1).hd ?_) | (refine load_hv rfl _ rfl B rfl h (HVH.out.below hb4).hd ?_) | (refine load_hv rfl _ rfl B rfl h HVH.out.hd ?_))
        | (go_at_call 116; (with_reducible refine (HS.out _).mono ?_); rintro e w1 ⟨rfl, hb1⟩)
        | (go_at_call 114; (with_reducible refine (HA.out _).mono ?_); rintro e w2 ⟨rfl, hb2⟩)
        | (go_at_call 117; (with_reducible refine (HE.out _).mono ?_); rintro e w3 ⟨rfl, hb3⟩)
        | (go_at_call 59; (with_reducible refine (HW.out _).mono ?_); rintro e w4 ⟨rfl, hb4⟩; have c8 := (HVH.out.below hb4).cells.2.2.2.2.1)
        | (go_at_call 118; (with_reducible refine (HL.out _).mono ?_); rintro e w5 ⟨rfl, rfl⟩))
      go_ret
      first | exact ⟨rfl, HBW.out⟩ | exact ⟨rfl, bel_trans HBW.out hb1⟩ | exact ⟨rfl, bel_trans HBW.out hb3⟩ | exact ⟨rfl, bel_trans HBW.out (bel_trans hb1 hb2)⟩ | exact ⟨rfl, bel_trans HBW.out (bel_trans hb4 hb2)⟩ | exact ⟨rfl, bel_trans HBW.out hb4⟩
  · cases b3
    all_goals
      simp at hF
      subst hF
      go_enter Tryz.func81, Tryz.ntmps81
      go_upto_region 1 with fail
      clear hW hB hvh hbw
      go_wp2_with (first
        | (first | (refine load_vw rfl _ rfl w.heap.size rfl v (HVH.out.below hb1).vw ?_) | (refine load_vw rfl _ rfl w.heap.size rfl v (HVH.out.below hb4).vw ?_) | (refine load_vw rfl _ rfl w.heap.size rfl v HVH.out.vw ?_))
        | (first | (refine load_hv rfl _ rfl B rfl h (HVH.out.below hb1).hd ?_) | (refine load_hv rfl _ rfl B rfl h (HVH.out.below hb4).hd ?_) | (refine load_hv rfl _ rfl B rfl h HVH.out.hd ?_))
        | (go_at_call 116; (with_reducible refine (HS.out _).mono ?_); rintro e w1 ⟨rfl, hb1⟩)
        | (go_at_call 114; (with_reducible refine (HA.out _).mono ?_); rintro e w2 ⟨rfl, hb2⟩)
        | (go_at_call 117; (with_reducible refine (HE.out _).mono ?_); rintro e w3 ⟨rfl, hb3⟩)
        | (go_at_call 59; (with_reducible refine (HW.out _).mono ?_); rintro e w4 ⟨rfl, hb4⟩; have c8 := (HVH.out.below hb4).cells.2.2.2.2.1)
        | (go_at_call 118; (with_reducible refine (HL.out _).mono ?_); rintro e w5 ⟨rfl, rfl⟩))
      go_ret
      first | exact ⟨rfl, HBW.out⟩ | exact ⟨rfl, bel_trans HBW.out hb1⟩ | exact ⟨rfl, bel_trans HBW.out hb3⟩ | exact ⟨rfl, bel_trans HBW.out (bel_trans hb1 hb2)⟩ | exact ⟨rfl, bel_trans HBW.out (bel_trans hb4 hb2)⟩ | exact ⟨rfl, bel_trans HBW.out hb4⟩
  · cases b4 <;> cases b2
    all_goals
      simp at hF
      subst hF
      go_enter Tryz.func81, Tryz.ntmps81
      go_upto_region 1 with fail
      clear hW hB hvh hbw
      go_wp2_with (first
        | (first | (refine load_vw rfl _ rfl w.heap.size rfl v (HVH.out.below hb1).vw ?_) | (refine load_vw rfl _ rfl w.heap.size rfl v (HVH.out.below hb4).vw ?_) | (refine load_vw rfl _ rfl w.heap.size rfl v HVH.out.vw ?_))
        | (first | (refine load_hv rfl _ rfl B rfl h (HVH.out.below hb1).hd ?_) | (refine load_hv rfl _ rfl B rfl h (HVH.out.below hb4).hd ?_) | (refine load_hv rfl _ rfl B rfl h HVH.out.hd ?_))
        | (go_at_call 116; (with_reducible refine (HS.out _).mono ?_); rintro e w1 ⟨rfl, hb1⟩)
        | (go_at_call 114; (with_reducible refine (HA.out _).mono ?_); rintro e w2 ⟨rfl, hb2⟩)
        | (go_at_call 117; (with_reducible refine (HE.out _).mono ?_); rintro e w3 ⟨rfl, hb3⟩)
        | (go_at_call 59; (with_reducible refine (HW.out _).mono ?_); rintro e w4 ⟨rfl, hb4⟩; have c8 := (HVH.out.below hb4).cells.2.2.2.2.1)
        | (go_at_call 118; (with_reducible refine (HL.out _).mono ?_); rintro e w5 ⟨rfl, rfl⟩))
      go_ret
      first | exact ⟨rfl, HBW.out⟩ | exact ⟨rfl, bel_trans HBW.out hb1⟩ | exact ⟨rfl, bel_trans HBW.out hb3⟩ | exact ⟨rfl, bel_trans HBW.out (bel_trans hb1 hb2)⟩ | exact ⟨rfl, bel_trans HBW.out (bel_trans hb4 hb2)⟩ | exact ⟨rfl, bel_trans HBW.out hb4⟩
  · cases b4 <;> cases b2
    all_goals
      simp at hF
      subst hF
      go_enter Tryz.func81, Tryz.ntmps81
      go_upto_region 1 with fail
      clear hW hB hvh hbw
      go_wp2_with (first
        | (first | (refine load_vw rfl _ rfl w.heap.size rfl v (HVH.out.below hb1).vw ?_) | (refine load_vw rfl _ rfl w.heap.size rfl v (HVH.out.below hb4).vw ?_) | (refine load_vw rfl _ rfl w.heap.size rfl v HVH.out.vw ?_))
        | (first | (refine load_hv rfl _ rfl B rfl h (HVH.out.below hb1).hd ?_) | (refine load_hv rfl _ rfl B rfl h (HVH.out.below hb4).hd ?_) | (refine load_hv rfl _ rfl B rfl h HVH.out.hd ?_))
        | (go_at_call 116; (with_reducible refine (HS.out _).mono ?_); rintro e w1 ⟨rfl, hb1⟩)
        | (go_at_call 114; (with_reducible refine (HA.out _).mono ?_); rintro e w2 ⟨rfl, hb2⟩)
        | (go_at_call 117; (with_reducible refine (HE.out _).mono ?_); rintro e w3 ⟨rfl, hb3⟩)
        | (go_at_call 59; (with_reducible refine (HW.out _).mono ?_); rintro e w4 ⟨rfl, hb4⟩; have c8 := (HVH.out.below hb4).cells.2.2.2.2.1)
        | (go_at_call 118; (with_reducible refine (HL.out _).mono ?_); rintro e w5 ⟨rfl, rfl⟩))
      go_ret
      first | exact ⟨rfl, HBW.out⟩ | exact ⟨rfl, bel_trans HBW.out hb1⟩ | exact ⟨rfl, bel_trans HBW.out hb3⟩ | exact ⟨rfl, bel_trans HBW.out (bel_trans hb1 hb2)⟩ | exact ⟨rfl, bel_trans HBW.out (bel_trans hb4 hb2)⟩ | exact ⟨rfl, bel_trans HBW.out hb4⟩
end Go.Proofs.YtnhlachoimlhhaaGreatDoor
