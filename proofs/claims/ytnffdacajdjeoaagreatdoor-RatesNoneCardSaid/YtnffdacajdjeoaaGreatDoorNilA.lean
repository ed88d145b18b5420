/-
  Each method of nothing (a pointer that is nil): what it answers.
-/
import Derived.Test.YtnffdacajdjeoaaGreatDoorBgA
import Derived.Test.YtnffdacajdjeoaaGreatDoorRttA
import Derived.Test.YtnffdacajdjeoaaGreatDoorVecC
namespace Go.Proofs.YtnffdacajdjeoaaGreatDoor
open Go.ChangeShapes Go.WideShapes Go.ChangeAt Go.RowKit
set_option linter.unusedVariables false
set_option linter.unusedSimpArgs false

theorem sentPut_nil (w : World) : Calls Tryz.prog 58 #[.pointer none, .int .u64 1, .int .i64 0] w fun e w' => e = .returned (.bool false) ∧ Below w.heap.size w w' := by
  go_enter Tryz.func58, Tryz.ntmps58
  go_wp2
  first | (go_quiet (fail); go_wp2) | skip
  first | go_ret | go_ret2 | go_end0 | refine bodyPost_ret (results_none rfl _ _ _) rfl ?_
  first | exact ⟨rfl, Below.refl _ _⟩ | exact ⟨rfl, bel_drewN _ _⟩ | exact ⟨rfl, bel_alloc _ _⟩ | exact ⟨rfl, bel_trans (bel_alloc _ _) (bel_drewN _ _)⟩
theorem sentOut_nil (w : World) : Calls Tryz.prog 59 #[.pointer none] w fun e w' => e = .returned (.int .i64 0) ∧ Below w.heap.size w w' := by
  go_enter Tryz.func59, Tryz.ntmps59
  go_wp2
  first | (go_quiet (fail); go_wp2) | skip
  first | go_ret | go_ret2 | go_end0 | refine bodyPost_ret (results_none rfl _ _ _) rfl ?_
  first | exact ⟨rfl, Below.refl _ _⟩ | exact ⟨rfl, bel_drewN _ _⟩ | exact ⟨rfl, bel_alloc _ _⟩ | exact ⟨rfl, bel_trans (bel_alloc _ _) (bel_drewN _ _)⟩
theorem sentLoseAll_nil (w : World) : Calls Tryz.prog 60 #[.pointer none] w fun e w' => e = .returned (.int .i64 0) ∧ Below w.heap.size w w' := by
  go_enter Tryz.func60, Tryz.ntmps60
  go_wp2
  first | (go_quiet (fail); go_wp2) | skip
  first | go_ret | go_ret2 | go_end0 | refine bodyPost_ret (results_none rfl _ _ _) rfl ?_
  first | exact ⟨rfl, Below.refl _ _⟩ | exact ⟨rfl, bel_drewN _ _⟩ | exact ⟨rfl, bel_alloc _ _⟩ | exact ⟨rfl, bel_trans (bel_alloc _ _) (bel_drewN _ _)⟩
theorem sentLen_nil (w : World) : Calls Tryz.prog 61 #[.pointer none] w fun e w' => e = .returned (.int .i64 0) ∧ Below w.heap.size w w' := by
  go_enter Tryz.func61, Tryz.ntmps61
  go_wp2
  first | (go_quiet (fail); go_wp2) | skip
  first | go_ret | go_ret2 | go_end0 | refine bodyPost_ret (results_none rfl _ _ _) rfl ?_
  first | exact ⟨rfl, Below.refl _ _⟩ | exact ⟨rfl, bel_drewN _ _⟩ | exact ⟨rfl, bel_alloc _ _⟩ | exact ⟨rfl, bel_trans (bel_alloc _ _) (bel_drewN _ _)⟩
theorem winMay_nil (w : World) : Calls Tryz.prog 62 #[.pointer none] w fun e w' => e = .returned (.bool false) ∧ Below w.heap.size w w' := by
  go_enter Tryz.func62, Tryz.ntmps62
  go_wp2
  first | (go_quiet (fail); go_wp2) | skip
  first | go_ret | go_ret2 | go_end0 | refine bodyPost_ret (results_none rfl _ _ _) rfl ?_
  first | exact ⟨rfl, Below.refl _ _⟩ | exact ⟨rfl, bel_drewN _ _⟩ | exact ⟨rfl, bel_alloc _ _⟩ | exact ⟨rfl, bel_trans (bel_alloc _ _) (bel_drewN _ _)⟩
theorem winFire_nil (w : World) : Calls Tryz.prog 64 #[.pointer none, .int .i64 0] w fun e w' => e = .returned (.bool false) ∧ Below w.heap.size w w' := by
  go_enter Tryz.func64, Tryz.ntmps64
  go_wp2
  first | (go_quiet (fail); go_wp2) | skip
  first | go_ret | go_ret2 | go_end0 | refine bodyPost_ret (results_none rfl _ _ _) rfl ?_
  first | exact ⟨rfl, Below.refl _ _⟩ | exact ⟨rfl, bel_drewN _ _⟩ | exact ⟨rfl, bel_alloc _ _⟩ | exact ⟨rfl, bel_trans (bel_alloc _ _) (bel_drewN _ _)⟩
theorem winDue_nil (w : World) : Calls Tryz.prog 50 #[.pointer none] w fun e w' => e = .returned (.tuple #[.int .i64 0, .bool false]) ∧ Below w.heap.size w w' := by
  go_enter Tryz.func50, Tryz.ntmps50
  go_wp2
  first | (go_quiet (fail); go_wp2) | skip
  first | go_ret | go_ret2 | go_end0 | refine bodyPost_ret (results_none rfl _ _ _) rfl ?_
  first | exact ⟨rfl, Below.refl _ _⟩ | exact ⟨rfl, bel_drewN _ _⟩ | exact ⟨rfl, bel_alloc _ _⟩ | exact ⟨rfl, bel_trans (bel_alloc _ _) (bel_drewN _ _)⟩
theorem winCwnd_nil (w : World) : Calls Tryz.prog 65 #[.pointer none] w fun e w' => e = .returned (.int .i64 0) ∧ Below w.heap.size w w' := by
  go_enter Tryz.func65, Tryz.ntmps65
  go_wp2
  first | (go_quiet (fail); go_wp2) | skip
  first | go_ret | go_ret2 | go_end0 | refine bodyPost_ret (results_none rfl _ _ _) rfl ?_
  first | exact ⟨rfl, Below.refl _ _⟩ | exact ⟨rfl, bel_drewN _ _⟩ | exact ⟨rfl, bel_alloc _ _⟩ | exact ⟨rfl, bel_trans (bel_alloc _ _) (bel_drewN _ _)⟩
theorem tfrcMade_nil (w : World) : Calls Tryz.prog 100 #[.pointer none] w fun e w' => e = .returned (.bool false) ∧ Below w.heap.size w w' := by
  go_enter Tryz.func100, Tryz.ntmps100
  go_wp2
  first | (go_quiet (fail); go_wp2) | skip
  first | go_ret | go_ret2 | go_end0 | refine bodyPost_ret (results_none rfl _ _ _) rfl ?_
  first | exact ⟨rfl, Below.refl _ _⟩ | exact ⟨rfl, bel_drewN _ _⟩ | exact ⟨rfl, bel_alloc _ _⟩ | exact ⟨rfl, bel_trans (bel_alloc _ _) (bel_drewN _ _)⟩
theorem feedTell_nil (w : World) : Calls Tryz.prog 52 #[.pointer none, .int .i64 1] w fun e w' => e = .returned (.tuple #[.int .u64 0, .int .u64 0]) ∧ Below w.heap.size w w' := by
  go_enter Tryz.func52, Tryz.ntmps52
  go_wp2
  first | (go_quiet (fail); go_wp2) | skip
  first | go_ret | go_ret2 | go_end0 | refine bodyPost_ret (results_none rfl _ _ _) rfl ?_
  first | exact ⟨rfl, Below.refl _ _⟩ | exact ⟨rfl, bel_drewN _ _⟩ | exact ⟨rfl, bel_alloc _ _⟩ | exact ⟨rfl, bel_trans (bel_alloc _ _) (bel_drewN _ _)⟩
theorem feedPut_nil (w : World) : Calls Tryz.prog 70 #[.pointer none, .int .i64 0, .int .u64 1, .int .i64 1] w fun e w' => e = .returned (.bool false) ∧ Below w.heap.size w w' := by
  go_enter Tryz.func70, Tryz.ntmps70
  go_wp2
  first | (go_quiet (fail); go_wp2) | skip
  first | go_ret | go_ret2 | go_end0 | refine bodyPost_ret (results_none rfl _ _ _) rfl ?_
  first | exact ⟨rfl, Below.refl _ _⟩ | exact ⟨rfl, bel_drewN _ _⟩ | exact ⟨rfl, bel_alloc _ _⟩ | exact ⟨rfl, bel_trans (bel_alloc _ _) (bel_drewN _ _)⟩
theorem feedLost_nil (w : World) : Calls Tryz.prog 71 #[.pointer none] w fun e w' => e = .returned (.int .i64 0) ∧ Below w.heap.size w w' := by
  go_enter Tryz.func71, Tryz.ntmps71
  go_wp2
  first | (go_quiet (fail); go_wp2) | skip
  first | go_ret | go_ret2 | go_end0 | refine bodyPost_ret (results_none rfl _ _ _) rfl ?_
  first | exact ⟨rfl, Below.refl _ _⟩ | exact ⟨rfl, bel_drewN _ _⟩ | exact ⟨rfl, bel_alloc _ _⟩ | exact ⟨rfl, bel_trans (bel_alloc _ _) (bel_drewN _ _)⟩
theorem rttSample_nil (w : World) : Calls Tryz.prog 39 #[.pointer none, .int .i64 5] w fun e w' => e = .returned (.tuple #[]) ∧ Below w.heap.size w w' := by
  go_enter Tryz.func39, Tryz.ntmps39
  go_wp2
  first | (go_quiet (fail); go_wp2) | skip
  first | go_ret | go_ret2 | go_end0 | refine bodyPost_ret (results_none rfl _ _ _) rfl ?_
  first | exact ⟨rfl, Below.refl _ _⟩ | exact ⟨rfl, bel_drewN _ _⟩ | exact ⟨rfl, bel_alloc _ _⟩ | exact ⟨rfl, bel_trans (bel_alloc _ _) (bel_drewN _ _)⟩
theorem rttRto_nil (w : World) : Calls Tryz.prog 43 #[.pointer none] w fun e w' => e = .returned (.int .i64 0) ∧ Below w.heap.size w w' := by
  go_enter Tryz.func43, Tryz.ntmps43
  go_wp2
  first | (go_quiet (fail); go_wp2) | skip
  first | go_ret | go_ret2 | go_end0 | refine bodyPost_ret (results_none rfl _ _ _) rfl ?_
  first | exact ⟨rfl, Below.refl _ _⟩ | exact ⟨rfl, bel_drewN _ _⟩ | exact ⟨rfl, bel_alloc _ _⟩ | exact ⟨rfl, bel_trans (bel_alloc _ _) (bel_drewN _ _)⟩
theorem rsetHalve_nil (w : World) : Calls Tryz.prog 53 #[.pointer none] w fun e w' => e = .returned (.tuple #[]) ∧ Below w.heap.size w w' := by
  go_enter Tryz.func53, Tryz.ntmps53
  go_wp2
  first | (go_quiet (fail); go_wp2) | skip
  first | go_ret | go_ret2 | go_end0 | refine bodyPost_ret (results_none rfl _ _ _) rfl ?_
  first | exact ⟨rfl, Below.refl _ _⟩ | exact ⟨rfl, bel_drewN _ _⟩ | exact ⟨rfl, bel_alloc _ _⟩ | exact ⟨rfl, bel_trans (bel_alloc _ _) (bel_drewN _ _)⟩
theorem rsetMax_nil (w : World) : Calls Tryz.prog 66 #[.pointer none] w fun e w' => e = .returned (.int .u64 0) ∧ Below w.heap.size w w' := by
  go_enter Tryz.func66, Tryz.ntmps66
  go_wp2
  first | (go_quiet (fail); go_wp2) | skip
  first | go_ret | go_ret2 | go_end0 | refine bodyPost_ret (results_none rfl _ _ _) rfl ?_
  first | exact ⟨rfl, Below.refl _ _⟩ | exact ⟨rfl, bel_drewN _ _⟩ | exact ⟨rfl, bel_alloc _ _⟩ | exact ⟨rfl, bel_trans (bel_alloc _ _) (bel_drewN _ _)⟩
theorem rsetLen_nil (w : World) : Calls Tryz.prog 67 #[.pointer none] w fun e w' => e = .returned (.int .i64 0) ∧ Below w.heap.size w w' := by
  go_enter Tryz.func67, Tryz.ntmps67
  go_wp2
  first | (go_quiet (fail); go_wp2) | skip
  first | go_ret | go_ret2 | go_end0 | refine bodyPost_ret (results_none rfl _ _ _) rfl ?_
  first | exact ⟨rfl, Below.refl _ _⟩ | exact ⟨rfl, bel_drewN _ _⟩ | exact ⟨rfl, bel_alloc _ _⟩ | exact ⟨rfl, bel_trans (bel_alloc _ _) (bel_drewN _ _)⟩
theorem gotForget_nil (w : World) : Calls Tryz.prog 54 #[.pointer none, .int .u64 1] w fun e w' => e = .returned (.tuple #[]) ∧ Below w.heap.size w w' := by
  go_enter Tryz.func54, Tryz.ntmps54
  go_wp2
  first | (go_quiet (fail); go_wp2) | skip
  first | go_ret | go_ret2 | go_end0 | refine bodyPost_ret (results_none rfl _ _ _) rfl ?_
  first | exact ⟨rfl, Below.refl _ _⟩ | exact ⟨rfl, bel_drewN _ _⟩ | exact ⟨rfl, bel_alloc _ _⟩ | exact ⟨rfl, bel_trans (bel_alloc _ _) (bel_drewN _ _)⟩
theorem gotPut_nil (w : World) : Calls Tryz.prog 55 #[.pointer none, .int .u64 1, .bool false] w fun e w' => e = .returned (.bool false) ∧ Below w.heap.size w w' := by
  go_enter Tryz.func55, Tryz.ntmps55
  go_wp2
  first | (go_quiet (fail); go_wp2) | skip
  first | go_ret | go_ret2 | go_end0 | refine bodyPost_ret (results_none rfl _ _ _) rfl ?_
  first | exact ⟨rfl, Below.refl _ _⟩ | exact ⟨rfl, bel_drewN _ _⟩ | exact ⟨rfl, bel_alloc _ _⟩ | exact ⟨rfl, bel_trans (bel_alloc _ _) (bel_drewN _ _)⟩
theorem gotCells_nil (w : World) : Calls Tryz.prog 56 #[.pointer none] w fun e w' => e = .returned (.slice none 0 0) ∧ Below w.heap.size w w' := by
  go_enter Tryz.func56, Tryz.ntmps56
  go_wp2
  first | (go_quiet (fail); go_wp2) | skip
  first | go_ret | go_ret2 | go_end0 | refine bodyPost_ret (results_none rfl _ _ _) rfl ?_
  first | exact ⟨rfl, Below.refl _ _⟩ | exact ⟨rfl, bel_drewN _ _⟩ | exact ⟨rfl, bel_alloc _ _⟩ | exact ⟨rfl, bel_trans (bel_alloc _ _) (bel_drewN _ _)⟩
theorem gotHas_nil (w : World) : Calls Tryz.prog 57 #[.pointer none, .int .u64 1] w fun e w' => e = .returned (.bool false) ∧ Below w.heap.size w w' := by
  go_enter Tryz.func57, Tryz.ntmps57
  go_wp2
  first | (go_quiet (fail); go_wp2) | skip
  first | go_ret | go_ret2 | go_end0 | refine bodyPost_ret (results_none rfl _ _ _) rfl ?_
  first | exact ⟨rfl, Below.refl _ _⟩ | exact ⟨rfl, bel_drewN _ _⟩ | exact ⟨rfl, bel_alloc _ _⟩ | exact ⟨rfl, bel_trans (bel_alloc _ _) (bel_drewN _ _)⟩
set_option maxHeartbeats 1000000 in
set_option maxRecDepth 100000 in
theorem sentHear_nil (w : World) : Calls Tryz.prog 49 #[.pointer none, .int .u64 1, .slice none 0 0, .int .i64 0] w fun e w' => e = .returned (.agg #[.slice none 0 0, .slice none 0 0, .slice none 0 0, .int .i64 0, .int .i64 (-1)]) ∧ Below w.heap.size w w' := by
  go_enter Tryz.func49, Tryz.ntmps49
  go_upto_region 3 with fail
  have k11 : BlkIs #[.slice none 0 0, .slice none 0 0, .slice none 0 0, .int .i64 0, .int .i64 0] 71 w.heap.size ((w.alloc (.cells #[.slice none 0 0, .slice none 0 0, .slice none 0 0, .int .i64 0, .int .i64 0] 71)).alloc (.cells #[.slice none 0 0, .slice none 0 0, .slice none 0 0, .int .i64 0, .int .i64 (-1)] 71)) := (BlkIs.new _ _ _).alloc _
  have k10 : BlkIs #[.slice none 0 0, .slice none 0 0, .slice none 0 0, .int .i64 0, .int .i64 (-1)] 71 (w.heap.size + 1) ((w.alloc (.cells #[.slice none 0 0, .slice none 0 0, .slice none 0 0, .int .i64 0, .int .i64 0] 71)).alloc (.cells #[.slice none 0 0, .slice none 0 0, .slice none 0 0, .int .i64 0, .int .i64 (-1)] 71)) := by
    have := BlkIs.new #[.slice none 0 0, .slice none 0 0, .slice none 0 0, .int .i64 0, .int .i64 (-1)] 71 (w.alloc (.cells #[.slice none 0 0, .slice none 0 0, .slice none 0 0, .int .i64 0, .int .i64 0] 71))
    rw [World.size_alloc] at this
    exact this
  have hb : Below w.heap.size w ((w.alloc (.cells #[.slice none 0 0, .slice none 0 0, .slice none 0 0, .int .i64 0, .int .i64 0] 71)).alloc (.cells #[.slice none 0 0, .slice none 0 0, .slice none 0 0, .int .i64 0, .int .i64 (-1)] 71)) := bel_trans (bel_alloc _ _) (bel_alloc _ _)
  generalize (w.alloc (.cells #[.slice none 0 0, .slice none 0 0, .slice none 0 0, .int .i64 0, .int .i64 0] 71)).alloc (.cells #[.slice none 0 0, .slice none 0 0, .slice none 0 0, .int .i64 0, .int .i64 (-1)] 71) = W7 at *
  obtain ⟨A, hA⟩ : ∃ A, w.heap.size = A := ⟨_, rfl⟩
  rw [hA] at k11 k10 hb ⊢
  have y0 : W7.cell? ⟨A + 1, 0, none⟩ = some (.slice none 0 0) := BlkIs.cell k10 0
  have y1 : W7.cell? ⟨A + 1, 1, none⟩ = some (.slice none 0 0) := BlkIs.cell k10 1
  have y2 : W7.cell? ⟨A + 1, 2, none⟩ = some (.slice none 0 0) := BlkIs.cell k10 2
  have y3 : W7.cell? ⟨A + 1, 3, none⟩ = some (.int .i64 0) := BlkIs.cell k10 3
  have y4 : W7.cell? ⟨A + 1, 4, none⟩ = some (.int .i64 (-1)) := BlkIs.cell k10 4
  have v0 : W7.cell? ⟨A, 0, none⟩ = some (.slice none 0 0) := BlkIs.cell k11 0
  have v1 : W7.cell? ⟨A, 1, none⟩ = some (.slice none 0 0) := BlkIs.cell k11 1
  have v2 : W7.cell? ⟨A, 2, none⟩ = some (.slice none 0 0) := BlkIs.cell k11 2
  have v3 : W7.cell? ⟨A, 3, none⟩ = some (.int .i64 0) := BlkIs.cell k11 3
  have v4 : W7.cell? ⟨A, 4, none⟩ = some (.int .i64 0) := BlkIs.cell k11 4
  have vf := BlkIs.free k11
  have K11 := Lib.hid k11
  have HB := Lib.hid hb
  have HAe := Lib.hid hA
  clear k10 k11 hb hA
  go_wp2
  have kb := ((((K11.out.set 0 (.slice none 0 0)).set 1 (.slice none 0 0)).set 2 (.slice none 0 0)).set 3 (.int .i64 0)).set 4 (.int .i64 (-1))
  refine bodyPost_ret (results_cell_row Tryz.results49 _ _ A 71 (heardCells (.slice none 0 0) 0 (-1)) (0, 0) _ rfl kb Tryz.underlying71 rfl (by kernel_rfl)) rfl ⟨rfl, ?_⟩
  rw [HAe.out]
  exact ((((HB.out.setCell (p := ⟨A, 0, none⟩) (Nat.le_refl _) _).setCell (p := ⟨A, 1, none⟩) (Nat.le_refl _) _).setCell (p := ⟨A, 2, none⟩) (Nat.le_refl _) _).setCell (p := ⟨A, 3, none⟩) (Nat.le_refl _) _).setCell (p := ⟨A, 4, none⟩) (Nat.le_refl _) _
theorem winSent_nil (w : World) : Calls Tryz.prog 63 #[.pointer none, .int .u64 1, .int .i64 0] w fun e w' => e = .returned (.bool false) ∧ Below w.heap.size w w' := by
  go_enter Tryz.func63, Tryz.ntmps63
  go_wp2_with (go_at_call 62; refine (winMay_nil _).mono ?_; rintro e w1 ⟨rfl, hb1⟩)
  first | go_ret | go_ret2 | go_end0 | refine bodyPost_ret (results_none rfl _ _ _) rfl ?_
  first | exact ⟨rfl, hb1⟩ | exact ⟨rfl, bel_trans hb1 (bel_drewN _ _)⟩
theorem tfrcDue_nil (w : World) : Calls Tryz.prog 51 #[.pointer none] w fun e w' => e = .returned (.tuple #[.int .i64 0, .bool false]) ∧ Below w.heap.size w w' := by
  go_enter Tryz.func51, Tryz.ntmps51
  go_wp2_with (go_at_call 100; refine (tfrcMade_nil _).mono ?_; rintro e w1 ⟨rfl, hb1⟩)
  first | go_ret | go_ret2 | go_end0 | refine bodyPost_ret (results_none rfl _ _ _) rfl ?_
  first | exact ⟨rfl, hb1⟩ | exact ⟨rfl, bel_trans hb1 (bel_drewN _ _)⟩
theorem tfrcFire_nil (w : World) : Calls Tryz.prog 68 #[.pointer none, .int .i64 0] w fun e w' => e = .returned (.bool false) ∧ Below w.heap.size w w' := by
  go_enter Tryz.func68, Tryz.ntmps68
  go_wp2_with (go_at_call 100; refine (tfrcMade_nil _).mono ?_; rintro e w1 ⟨rfl, hb1⟩)
  first | go_ret | go_ret2 | go_end0 | refine bodyPost_ret (results_none rfl _ _ _) rfl ?_
  first | exact ⟨rfl, hb1⟩ | exact ⟨rfl, bel_trans hb1 (bel_drewN _ _)⟩
theorem tfrcRate_nil (w : World) : Calls Tryz.prog 69 #[.pointer none] w fun e w' => e = .returned (.int .u64 0) ∧ Below w.heap.size w w' := by
  go_enter Tryz.func69, Tryz.ntmps69
  go_wp2_with (go_at_call 100; refine (tfrcMade_nil _).mono ?_; rintro e w1 ⟨rfl, hb1⟩)
  first | go_ret | go_ret2 | go_end0 | refine bodyPost_ret (results_none rfl _ _ _) rfl ?_
  first | exact ⟨rfl, hb1⟩ | exact ⟨rfl, bel_trans hb1 (bel_drewN _ _)⟩
theorem tfrcNew_nil (w : World) : Calls Tryz.prog 72 #[.int .i64 0] w fun e w' => e = .returned (.pointer none) ∧ Below w.heap.size w w' := by
  go_enter Tryz.func72, Tryz.ntmps72
  go_wp2
  first | (go_quiet (fail); go_wp2) | skip
  first | go_ret | go_ret2 | go_end0 | refine bodyPost_ret (results_none rfl _ _ _) rfl ?_
  first | exact ⟨rfl, Below.refl _ _⟩ | exact ⟨rfl, bel_drewN _ _⟩ | exact ⟨rfl, bel_alloc _ _⟩ | exact ⟨rfl, bel_trans (bel_alloc _ _) (bel_drewN _ _)⟩
/-- What may not be a vector is no text. -/
theorem vecPut_none (v : Value) (l : List Cel) (w : World) (hv : C2At w v l) (hmf : mayF 0 l = false) :
    Calls Tryz.prog 21 #[v] w fun e w' => e = .returned (.slice none 0 0) ∧ Below w.heap.size w w' := by
  have HM := Lib.hid (vecMay_any v l w hv)
  obtain ⟨p, cap, rfl, hcp, hcm, hc⟩ := hv.at_
  rw [hmf] at HM
  clear hmf hc hv
  generalize l.length = N at *
  go_enter Tryz.func21, Tryz.ntmps21
  go_wp2_with (go_at_call 23; (with_reducible refine HM.out.mono ?_); rintro e w1 ⟨rfl, hb1⟩)
  go_ret
  exact ⟨rfl, hb1⟩
end Go.Proofs.YtnffdacajdjeoaaGreatDoor
