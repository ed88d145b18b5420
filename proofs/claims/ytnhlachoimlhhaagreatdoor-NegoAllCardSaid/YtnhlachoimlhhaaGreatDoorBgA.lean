/-
  The calls of begun (law 8), each at its own numbers.
-/
import Derived.Test.YtnhlachoimlhhaaGreatDoorFdM
import Derived.Test.YtnhlachoimlhhaaGreatDoorGtM
import Derived.Test.YtnhlachoimlhhaaGreatDoorSnW
import Derived.Test.YtnhlachoimlhhaaGreatDoorSnM
import Derived.Test.YtnhlachoimlhhaaGreatDoorTfW
import Derived.Test.YtnhlachoimlhhaaGreatDoorWinW
import Derived.Test.YtnhlachoimlhhaaGreatDoorEqW
import Derived.Test.YtnhlachoimlhhaaGreatDoorVecW
import Derived.Test.YtnhlachoimlhhaaGreatDoorBegunM
namespace Go.Proofs.YtnhlachoimlhhaaGreatDoor
open Go.ChangeShapes Go.WideShapes Go.ChangeAt Go.RowKit
set_option linter.unusedVariables false
set_option linter.unusedSimpArgs false

theorem bgPut1 (C : Nat) (w : World) (h : SentAt [] C (.slice none 0 0) w) :
    Calls Tryz.prog 134 #[.pointer (some ⟨C, 0, none⟩), .int .u64 5, .int .i64 0] w fun e w' => ∃ g c, e = .returned (.bool true) ∧ SentAt [(5, 0, 0)] C (.slice (some ⟨g, 0, none⟩) 1 c) w' ∧ Kept [C] w w' ∧ w.heap.size ≤ g := by
  refine (sentPut_any [] (by decide) 5 (by decide) 0 (by decide) (by decide) C _ w h ((sentMay_first 5 C w h).mono ?_)).mono ?_
  · rintro e w' ⟨rfl, rfl⟩
    exact ⟨rfl, 0, rfl⟩
  · rintro e w' ⟨g, c, rfl, h1, h2, h3⟩
    refine ⟨g, c, rfl, h1, h2, ?_⟩
    rcases h3 with h3 | h3
    · cases h3
    · exact h3
theorem bgPut2 (C g c : Nat) (w : World) (h : SentAt [(5, 0, 0)] C (.slice (some ⟨g, 0, none⟩) 1 c) w) :
    Calls Tryz.prog 134 #[.pointer (some ⟨C, 0, none⟩), .int .u64 6, .int .i64 10] w fun e w' => ∃ g2 c2, e = .returned (.bool true) ∧ SentAt [(5, 0, 0), (6, 10, 0)] C (.slice (some ⟨g2, 0, none⟩) 2 c2) w' ∧ Kept [C, g] w w' ∧ (g2 = g ∨ w.heap.size ≤ g2) := by
  refine (sentPut_any [(5, 0, 0)] (by decide) 6 (by decide) 10 (by decide) (by decide) C _ w h ((sentMay_next _ 0 rfl (by decide) 6 5 rfl (fun W => seqLess_any 5 6 (by decide) (by decide) W) C _ w h).mono ?_)).mono ?_
  · rintro e w' ⟨rfl, k, rfl⟩
    exact ⟨rfl, k, rfl⟩
  · rintro e w' ⟨g2, c2, rfl, h1, h2, h3⟩
    refine ⟨g2, c2, rfl, h1, h2, ?_⟩
    rcases h3 with h3 | h3
    · left
      have : g = g2 := by simpa [Value.ownBlock] using h3
      exact this.symm
    · exact .inr h3
theorem bgPut3 (C g c : Nat) (w : World) (h : SentAt [(5, 0, 0), (6, 10, 0)] C (.slice (some ⟨g, 0, none⟩) 2 c) w) :
    Calls Tryz.prog 134 #[.pointer (some ⟨C, 0, none⟩), .int .u64 7, .int .i64 20] w fun e w' => ∃ g2 c2, e = .returned (.bool true) ∧ RecsAt (hrL 0) C g2 c2 w' ∧ Kept [C, g] w w' ∧ (g2 = g ∨ w.heap.size ≤ g2) := by
  refine (sentPut_any [(5, 0, 0), (6, 10, 0)] (by decide) 7 (by decide) 20 (by decide) (by decide) C _ w h ((sentMay_next _ 1 rfl (by decide) 7 6 rfl (fun W => seqLess_any 6 7 (by decide) (by decide) W) C _ w h).mono ?_)).mono ?_
  · rintro e w' ⟨rfl, k, rfl⟩
    exact ⟨rfl, k, rfl⟩
  · rintro e w' ⟨g2, c2, rfl, h1, h2, h3⟩
    refine ⟨g2, c2, rfl, SentAt.recs (l := hrL 0) h1 (by decide), h2, ?_⟩
    rcases h3 with h3 | h3
    · left
      have : g = g2 := by simpa [Value.ownBlock] using h3
      exact this.symm
    · exact .inr h3
theorem bgSample (C : Nat) (w : World) (h : RttBlk RttS.zero C w) :
    Calls Tryz.prog 136 #[.pointer (some ⟨C, 0, none⟩), .int .i64 1000] w fun e w' => e = .returned (.tuple #[]) ∧ RttBlk (RttS.zero.sample 1000) C w' ∧ Kept [C] w w' := rttSample_any _ RttS.ok_zero 1000 C w h
theorem bgRto (C : Nat) (w : World) (h : RttBlk (RttS.zero.sample 1000) C w) :
    Calls Tryz.prog 147 #[.pointer (some ⟨C, 0, none⟩)] w fun e w' => e = .returned (.int .i64 200000) ∧ ∃ n, w' = w.drewN n :=
  rttRto_any _ (RttS.ok.sample RttS.ok_zero 1000) C w h
def bgWin : WinS := WinS.init.sent 1 (M.winDue 0 RttS.zero.rto)
theorem bgSent (C D : Nat) (w : World) (h : WinAt WinS.init RttS.zero C D w) :
    Calls Tryz.prog 137 #[.pointer (some ⟨C, 0, none⟩), .int .u64 1, .int .i64 0] w fun e w' => e = .returned (.bool true) ∧ WinAt bgWin RttS.zero C D w' ∧ Kept [C] w w' :=
  winSent_yes WinS.init WinS.ok_init (by decide) RttS.zero RttS.ok_zero 1 (by decide) 0 (by decide) C D w h
theorem bgMay (C D : Nat) (w : World) (h : WinAt bgWin RttS.zero C D w) :
    Calls Tryz.prog 138 #[.pointer (some ⟨C, 0, none⟩)] w fun e w' => e = .returned (.bool true) ∧ ∃ n, w' = w.drewN n := winMay_any bgWin _ C D w h
theorem bgDue (C D : Nat) (w : World) (h : WinAt bgWin RttS.zero C D w) :
    Calls Tryz.prog 139 #[.pointer (some ⟨C, 0, none⟩)] w fun e w' => e = .returned (.tuple #[.int .i64 3000000, .bool true]) ∧ ∃ n, w' = w.drewN n := winDue_any bgWin _ C D w h
def bgTf0 : TfS := ⟨100, 64 * 100, 0, 0, 0, false, 0, false⟩
def bgTf1 : TfS := ({ bgTf0 with started := true } : TfS).run (M.tfDue 2000000 0)
theorem bgStart (l : List Pr) (C P : Nat) (v : Value) (w : World) (h : TfAt bgTf0 l C P v w) :
    Calls Tryz.prog 140 #[.pointer (some ⟨C, 0, none⟩), .int .i64 0] w fun e w' => e = .returned (.tuple #[]) ∧ TfAt bgTf1 l C P v w' ∧ Kept [C] w w' :=
  tfStart_first bgTf0 ⟨by decide, by decide, by decide, by decide, by decide⟩ rfl 0 (by decide) l C P v w h
def bgTf2 : TfS := (bgTf1.first0 500 100000).run (M.tfDue (M.tfWait (bgTf1.first0 500 100000)) 500)
theorem bgHear (C P : Nat) (v : Value) (w : World) (h : TfAt bgTf1 [(0, 18446744073709551615)] C P v w) :
    Calls Tryz.prog 141 #[.pointer (some ⟨C, 0, none⟩), .int .i64 500, .int .i64 100000, .int .u64 640000, .int .u64 0, .bool false] w fun e w' => e = .returned (.tuple #[]) ∧
      ∃ l v', TfAt bgTf2 l C P v' w' ∧ Kept (C :: P :: own v) w w' ∧ (v'.ownBlock = v.ownBlock ∨ ∃ g, v'.ownBlock = some g ∧ w.heap.size ≤ g) := by
  refine (tfHear_first0 bgTf1 ⟨by decide, by decide, by decide, by decide, by decide⟩ rfl 500 100000 640000 (by decide) 500 (by decide) 100000 (by decide) [(0, 18446744073709551615)] (by decide) (by decide) (by decide) (by decide) (fun i hi => ?_) C P v w h).mono ?_
  · obtain rfl : i = 0 := by simpa using hi
    decide
  · rintro e w' ⟨rfl, v', h1, h2, h3⟩
    exact ⟨rfl, _, v', h1, h2, h3⟩
theorem bgTf2_ok : bgTf2.ok := ⟨by decide, by decide, by decide, by decide, by decide⟩
theorem bgRtt (l : List Pr) (C P : Nat) (v : Value) (w : World) (h : TfAt bgTf2 l C P v w) :
    Calls Tryz.prog 50 #[.pointer (some ⟨C, 0, none⟩)] w fun e w' => e = .returned (.int .i64 100000) ∧ w = w' := tfRtt_any bgTf2 bgTf2_ok l C P v w h
theorem bgRate (l : List Pr) (C P : Nat) (v : Value) (w : World) (h : TfAt bgTf2 l C P v w) :
    Calls Tryz.prog 34 #[.pointer (some ⟨C, 0, none⟩)] w fun e w' => e = .returned (.int .u64 256000) ∧ w = w' := by
  have h1 := tfRate_any bgTf2 bgTf2_ok l C P v w h
  rw [show bgTf2.rate = 256000 by decide] at h1
  exact h1
def bgFd1 : FdS := (FdS.fresh 1000).put1 0 3 (List.replicate 249 (0, 0)) 100
theorem bgFeed (C : Nat) (w : World) (h : FdAt (FdS.fresh 1000) (.slice none 0 0) C w) :
    Calls Tryz.prog 142 #[.pointer (some ⟨C, 0, none⟩), .int .i64 0, .int .u64 3, .int .i64 100] w fun e w' => e = .returned (.bool true) ∧ FdAt bgFd1 (.slice none 0 0) C w' ∧ Kept [C] w w' :=
  feedPut_first (FdS.fresh 1000) rfl (List.replicate 249 (0, 0)) (List.replicate_succ (n := 249)) 0 0 (by show max (-9223372036854775808 : Int) (min 0 4611686018427387904) = 0; omega) 3 (fun W => seqDiff_any 3 3 (by decide) (by decide) W) 100 (by decide) (Nat.zero_le _) _ C w h
theorem bgTell (C : Nat) (w : World) (hT : TabW w) (hTC : C ≠ 3) (h : FdAt bgFd1 (.slice none 0 0) C w) :
    Calls Tryz.prog 143 #[.pointer (some ⟨C, 0, none⟩), .int .i64 1000000] w fun e w' => e = .returned (.tuple #[.int .u64 6400, .int .u64 0]) ∧ Kept [C] w w' := by
  refine (feedTell_none bgFd1 1000000 0 1000000 (by show max (0 : Int) (min 1000000 4611686018427387904) = 1000000; omega) rfl (by decide) (by decide) 1000000 (by decide) (show 0 + 100 ≤ 1048576 by decide) none 0 (by decide) C w hT hTC h).mono ?_
  rintro e w' ⟨rfl, _, hk⟩
  exact ⟨rfl, hk⟩
end Go.Proofs.YtnhlachoimlhhaaGreatDoor
