/-
  The law CtrlNone, walked (its opening handed in): calls on nothing.
-/
import Derived.Test.YtnhlachoimlhhaaGreatDoorCtW
namespace Go.Proofs.YtnhlachoimlhhaaGreatDoor
open Go.ChangeShapes Go.WideShapes Go.ChangeAt Go.RowKit
set_option linter.unusedVariables false
set_option linter.unusedSimpArgs false

theorem nilQTake (w : World) : Calls Tryz.prog 39 #[.pointer none] w fun e w' => e = .returned (.tuple #[.string { data := #[] }, .bool false]) ∧ ∃ n, w' = w.drewN n := by
  go_enter Tryz.func39, Tryz.ntmps39
  go_wp2
  go_ret2
  exact ⟨rfl, 0, rfl⟩
theorem nilQLen (w : World) : Calls Tryz.prog 46 #[.pointer none] w fun e w' => e = .returned (.int .i64 0) ∧ ∃ n, w' = w.drewN n := by
  go_enter Tryz.func46, Tryz.ntmps46
  go_wp2
  go_ret
  exact ⟨rfl, 0, rfl⟩
theorem nilQPut (s : ByteArray) (w : World) : Calls Tryz.prog 45 #[.pointer none, .string s] w fun e w' => e = .returned (.int .i64 12) ∧ ∃ n, w' = w.drewN n := by
  go_enter Tryz.func45, Tryz.ntmps45
  go_wp2
  go_ret
  exact ⟨rfl, 0, rfl⟩
theorem nilPRate (w : World) : Calls Tryz.prog 40 #[.pointer none, .int .i64 1, .int .u64 5] w fun e w' => e = .returned (.tuple #[]) ∧ ∃ n, w' = w.drewN n := by
  go_enter Tryz.func40, Tryz.ntmps40
  go_wp2
  refine bodyPost_ret (results_none rfl _ _ _) rfl ?_
  exact ⟨rfl, 0, rfl⟩
theorem nilPMay (w : World) : Calls Tryz.prog 41 #[.pointer none, .int .i64 1, .int .i64 0] w fun e w' => e = .returned (.bool false) ∧ ∃ n, w' = w.drewN n := by
  go_enter Tryz.func41, Tryz.ntmps41
  go_wp2
  go_ret
  exact ⟨rfl, 0, rfl⟩
theorem nilPTake (w : World) : Calls Tryz.prog 42 #[.pointer none, .int .i64 1, .int .i64 0] w fun e w' => e = .returned (.bool false) ∧ ∃ n, w' = w.drewN n := by
  go_enter Tryz.func42, Tryz.ntmps42
  go_wp2_with (go_at_call 41; (with_reducible refine (nilPMay _).mono ?_); rintro e w1 ⟨rfl, n1, rfl⟩)
  go_ret
  exact ⟨rfl, n1, rfl⟩
theorem nilPWhen (w : World) : Calls Tryz.prog 43 #[.pointer none, .int .i64 1] w fun e w' => e = .returned (.int .i64 4611686018427387904) ∧ ∃ n, w' = w.drewN n := by
  go_enter Tryz.func43, Tryz.ntmps43
  go_wp2
  go_ret
  exact ⟨rfl, 0, rfl⟩
theorem nilPCap (w : World) : Calls Tryz.prog 44 #[.pointer none] w fun e w' => e = .returned (.int .u64 0) ∧ ∃ n, w' = w.drewN n := by
  go_enter Tryz.func44, Tryz.ntmps44
  go_wp2
  go_ret
  exact ⟨rfl, 0, rfl⟩
theorem nilNWant (s : ByteArray) (w : World) : Calls Tryz.prog 18 #[.pointer none, .int .i64 1, .string s] w fun e w' => e = .returned (.int .i64 12) ∧ ∃ n, w' = w.drewN n := by
  go_enter Tryz.func18, Tryz.ntmps18
  go_wp2
  go_ret
  exact ⟨rfl, 0, rfl⟩
theorem nilNOpts (w : World) : Calls Tryz.prog 22 #[.pointer none] w fun e w' => e = .returned (.slice none 0 0) ∧ ∃ n, w' = w.drewN n := by
  go_enter Tryz.func22, Tryz.ntmps22
  go_wp2
  go_ret
  exact ⟨rfl, 0, rfl⟩
theorem nilNTake (w : World) : Calls Tryz.prog 24 #[.pointer none, .slice none 0 0] w fun e w' => e = .returned (.bool false) ∧ ∃ n, w' = w.drewN n := by
  go_enter Tryz.func24, Tryz.ntmps24
  go_wp2
  go_ret
  exact ⟨rfl, 0, rfl⟩
theorem nilNMine (w : World) : Calls Tryz.prog 28 #[.pointer none, .int .i64 1] w fun e w' => e = .returned (.string { data := #[] }) ∧ ∃ n, w' = w.drewN n := by
  go_enter Tryz.func28, Tryz.ntmps28
  go_wp2
  go_ret
  exact ⟨rfl, 0, rfl⟩
theorem nilNDone (w : World) : Calls Tryz.prog 26 #[.pointer none] w fun e w' => e = .returned (.bool true) ∧ ∃ n, w' = w.drewN n := by
  go_enter Tryz.func26, Tryz.ntmps26
  go_wp2
  go_ret
  exact ⟨rfl, 0, rfl⟩
theorem feat9 (w : World) : Calls Tryz.prog 47 #[.int .i64 9] w fun e w' => e = .returned (.string { data := #[] }) ∧ ∃ n, w' = w.drewN n := by
  go_enter Tryz.func47, Tryz.ntmps47
  go_wp2
  go_ret
  exact ⟨rfl, 0, rfl⟩
theorem queue51 (w : World) : Calls Tryz.prog 48 #[.int .i64 51] w fun e w' => e = .returned (.pointer none) ∧ ∃ n, w' = w.drewN n := by
  go_enter Tryz.func48, Tryz.ntmps48
  go_wp2
  go_ret
  exact ⟨rfl, 0, rfl⟩
set_option maxHeartbeats 8000000 in
set_option maxRecDepth 100000 in
theorem ctrlNone_walk (w : World)
    (hbg : ∀ W, Below w.heap.size w W → Calls Tryz.prog 14 #[] W fun e w' => e = .returned (.bool true) ∧ Below W.heap.size W w') :
    Calls Tryz.prog 6 #[] w fun e w' => e = .returned (.bool true) ∧ Below w.heap.size w w' := by
  have HBG := Lib.hid hbg
  clear hbg
  have e1 := eqN_N
  go_enter Tryz.func6, Tryz.ntmps6
  go_wp2_with (first
    | (go_at_call 14; (with_reducible refine (HBG.out _ ?_).mono ?_); (exact bel_drewN _ _); rintro e w0 ⟨rfl, hb0⟩)
    | (go_at_call 39; (with_reducible refine (nilQTake _).mono ?_); rintro e wn ⟨rfl, nn, rfl⟩)
    | (go_at_call 46; (with_reducible refine (nilQLen _).mono ?_); rintro e wn ⟨rfl, nn, rfl⟩)
    | (go_at_call 45; (with_reducible refine (nilQPut _ _).mono ?_); rintro e wn ⟨rfl, nn, rfl⟩)
    | (go_at_call 40; (with_reducible refine (nilPRate _).mono ?_); rintro e wn ⟨rfl, nn, rfl⟩)
    | (go_at_call 41; (with_reducible refine (nilPMay _).mono ?_); rintro e wn ⟨rfl, nn, rfl⟩)
    | (go_at_call 42; (with_reducible refine (nilPTake _).mono ?_); rintro e wn ⟨rfl, nn, rfl⟩)
    | (go_at_call 43; (with_reducible refine (nilPWhen _).mono ?_); rintro e wn ⟨rfl, nn, rfl⟩)
    | (go_at_call 44; (with_reducible refine (nilPCap _).mono ?_); rintro e wn ⟨rfl, nn, rfl⟩)
    | (go_at_call 18; (with_reducible refine (nilNWant _ _).mono ?_); rintro e wn ⟨rfl, nn, rfl⟩)
    | (go_at_call 22; (with_reducible refine (nilNOpts _).mono ?_); rintro e wn ⟨rfl, nn, rfl⟩)
    | (go_at_call 24; (with_reducible refine (nilNTake _).mono ?_); rintro e wn ⟨rfl, nn, rfl⟩)
    | (go_at_call 28; (with_reducible refine (nilNMine _).mono ?_); rintro e wn ⟨rfl, nn, rfl⟩)
    | (go_at_call 26; (with_reducible refine (nilNDone _).mono ?_); rintro e wn ⟨rfl, nn, rfl⟩)
    | (go_at_call 47; (with_reducible refine (feat9 _).mono ?_); rintro e wn ⟨rfl, nn, rfl⟩)
    | (go_at_call 48; (with_reducible refine (queue51 _).mono ?_); rintro e wn ⟨rfl, nn, rfl⟩)
    | (go_at_call 31; (with_reducible refine (ctWindow_nil _).mono ?_); rintro e wn ⟨rfl, rfl⟩)
    | (go_at_call 32; (with_reducible refine (ctBucket_nil _).mono ?_); rintro e wn ⟨rfl, rfl⟩)
    | (go_at_call 30; (with_reducible refine (ctOf_no 4 100 (.inl ⟨by decide, by decide⟩) _).mono ?_); rintro e wn ⟨rfl, rfl⟩))
  go_ret

  exact ⟨rfl, bel_trans (bel_trans (bel_drewN w _) hb0) (bel_drewN _ _)⟩
end Go.Proofs.YtnhlachoimlhhaaGreatDoor
