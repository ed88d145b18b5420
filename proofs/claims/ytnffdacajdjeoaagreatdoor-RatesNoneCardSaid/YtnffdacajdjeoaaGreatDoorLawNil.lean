/-
  The law RatesNone, walked.
-/
import Derived.Test.YtnffdacajdjeoaaGreatDoorNilA
import Derived.Test.YtnffdacajdjeoaaGreatDoorIvalB
import Derived.Test.YtnffdacajdjeoaaGreatDoorBegun8
namespace Go.Proofs.YtnffdacajdjeoaaGreatDoor
open Go.ChangeShapes Go.WideShapes Go.ChangeAt Go.RowKit
set_option linter.unusedVariables false
set_option linter.unusedSimpArgs false

theorem u64_none (w : World) : U64At w (.slice none 0 0) [] := ⟨⟨none, 0, rfl, by simp, by decide, fun i hi => by simp at hi⟩, by simp, fun i => by simp⟩
theorem c2_bad (W : World) : C2At (W.alloc (.cells #[.int .i64 2, .int .i64 1] 86)) (.slice (some ⟨W.heap.size, 0, none⟩) 1 1) [(2, 1)] := by
  refine ⟨⟨_, 1, rfl, by decide, by decide, fun i hi => ?_⟩, by decide, fun i => ?_⟩
  · obtain rfl : i = 0 := by simpa using hi
    exact ⟨W.heap.size, 0, rfl, by simp, by rw [cell_of_row _ _ _ _ _ _ (heap_alloc_new W _)]; rfl, by rw [cell_of_row _ _ _ _ _ _ (heap_alloc_new W _)]; rfl⟩
  · cases i with
    | zero => decide
    | succ i => exact (by decide : -9223372036854775808 ≤ (0 : Int) ∧ (0 : Int) ≤ 9223372036854775807)
set_option maxHeartbeats 4000000 in
set_option maxRecDepth 100000 in
theorem ratesNone_walk (w : World) (hT : TabW w) :
    Calls Tryz.prog 9 #[] w fun e w' => e = .returned (.bool true) ∧ Below w.heap.size w w' := by
  have HBG : Hid (∀ W, Below w.heap.size w W → Calls Tryz.prog 18 #[] W fun e w' => e = .returned (.bool true) ∧ Below W.heap.size W w') := Lib.hid (fun W hb => begun8_any W (hT.below hb))
  have HRA : Hid (∀ W, Below w.heap.size w W → Calls Tryz.prog 33 #[.int .u64 5, .slice none 0 0] W fun e w' => e = .returned (.int .u64 0) ∧ Below W.heap.size W w') := Lib.hid (fun W hb =>
    (rate_any 5 _ [] (by decide) W (hT.below hb) (u64_none W)).mono fun e w' ⟨h1, k, h2⟩ => ⟨h1, by rw [h2]; exact bel_drewN _ k⟩)
  clear hT
  go_enter Tryz.func9, Tryz.ntmps9
  go_upto_region 9 with (go_at_call 49; refine (sentHear_nil _).mono ?_; rintro e w1 ⟨rfl, hb1⟩)
  have HK : BlkIs #[.slice none 0 0, .slice none 0 0, .slice none 0 0, .int .i64 0, .int .i64 (-1)] 71 w1.heap.size (w1.alloc (.cells #[.slice none 0 0, .slice none 0 0, .slice none 0 0, .int .i64 0, .int .i64 (-1)] 71)) := BlkIs.new _ _ _
  have hba : Below w.heap.size w (w1.alloc (.cells #[.slice none 0 0, .slice none 0 0, .slice none 0 0, .int .i64 0, .int .i64 (-1)] 71)) := bel_trans hb1 (bel_alloc _ _)
  generalize w1.alloc (.cells #[.slice none 0 0, .slice none 0 0, .slice none 0 0, .int .i64 0, .int .i64 (-1)] 71) = w2 at *
  generalize w1.heap.size = Hc at *
  have HKB : Hid (∀ W, Below w2.heap.size w2 W → W.cell? ⟨Hc, 0, none⟩ = some (.slice none 0 0) ∧ W.cell? ⟨Hc, 4, none⟩ = some (.int .i64 (-1)) ∧ Below w.heap.size w W) := Lib.hid (fun W h => ⟨BlkIs.cell (BlkIs.below HK h) 0, BlkIs.cell (BlkIs.below HK h) 4, bel_trans hba h⟩)
  have HBw : Below w2.heap.size w2 w2 := Below.refl _ _
  clear HK hba hb1
  go_upto_region 14 with (first
    | (go_at_call 50; refine (winDue_nil _).mono ?_; rintro e wn ⟨rfl, hbn⟩; replace HBw := bel_trans HBw hbn; clear hbn)
    | (go_at_call 51; refine (tfrcDue_nil _).mono ?_; rintro e wn ⟨rfl, hbn⟩; replace HBw := bel_trans HBw hbn; clear hbn)
    | (go_at_call 52; refine (feedTell_nil _).mono ?_; rintro e wn ⟨rfl, hbn⟩; replace HBw := bel_trans HBw hbn; clear hbn)
    | (go_at_call 39; refine (rttSample_nil _).mono ?_; rintro e wn ⟨rfl, hbn⟩; replace HBw := bel_trans HBw hbn; clear hbn)
    | (go_at_call 53; refine (rsetHalve_nil _).mono ?_; rintro e wn ⟨rfl, hbn⟩; replace HBw := bel_trans HBw hbn; clear hbn))
  have hc0 := (HKB.out _ HBw).1
  have hc4 := (HKB.out _ HBw).2.1
  go_wp2_with (first
    | (go_at_call 54; refine (gotForget_nil _).mono ?_; rintro e wn ⟨rfl, hbn⟩; replace HBw := bel_trans HBw hbn; clear hbn; replace hc0 := (HKB.out _ HBw).1; replace hc4 := (HKB.out _ HBw).2.1)
    | (go_at_call 18; refine (HBG.out _ (HKB.out _ HBw).2.2).mono ?_; rintro e wn ⟨rfl, hbn⟩; replace HBw := bel_trans HBw hbn; clear hbn; replace hc0 := (HKB.out _ HBw).1; replace hc4 := (HKB.out _ HBw).2.1)
    | (go_at_call 58; refine (sentPut_nil _).mono ?_; rintro e wn ⟨rfl, hbn⟩; replace HBw := bel_trans HBw hbn; clear hbn; replace hc0 := (HKB.out _ HBw).1; replace hc4 := (HKB.out _ HBw).2.1)
    | (go_at_call 59; refine (sentOut_nil _).mono ?_; rintro e wn ⟨rfl, hbn⟩; replace HBw := bel_trans HBw hbn; clear hbn; replace hc0 := (HKB.out _ HBw).1; replace hc4 := (HKB.out _ HBw).2.1)
    | (go_at_call 60; refine (sentLoseAll_nil _).mono ?_; rintro e wn ⟨rfl, hbn⟩; replace HBw := bel_trans HBw hbn; clear hbn; replace hc0 := (HKB.out _ HBw).1; replace hc4 := (HKB.out _ HBw).2.1)
    | (go_at_call 61; refine (sentLen_nil _).mono ?_; rintro e wn ⟨rfl, hbn⟩; replace HBw := bel_trans HBw hbn; clear hbn; replace hc0 := (HKB.out _ HBw).1; replace hc4 := (HKB.out _ HBw).2.1)
    | (go_at_call 62; refine (winMay_nil _).mono ?_; rintro e wn ⟨rfl, hbn⟩; replace HBw := bel_trans HBw hbn; clear hbn; replace hc0 := (HKB.out _ HBw).1; replace hc4 := (HKB.out _ HBw).2.1)
    | (go_at_call 64; refine (winFire_nil _).mono ?_; rintro e wn ⟨rfl, hbn⟩; replace HBw := bel_trans HBw hbn; clear hbn; replace hc0 := (HKB.out _ HBw).1; replace hc4 := (HKB.out _ HBw).2.1)
    | (go_at_call 65; refine (winCwnd_nil _).mono ?_; rintro e wn ⟨rfl, hbn⟩; replace HBw := bel_trans HBw hbn; clear hbn; replace hc0 := (HKB.out _ HBw).1; replace hc4 := (HKB.out _ HBw).2.1)
    | (go_at_call 70; refine (feedPut_nil _).mono ?_; rintro e wn ⟨rfl, hbn⟩; replace HBw := bel_trans HBw hbn; clear hbn; replace hc0 := (HKB.out _ HBw).1; replace hc4 := (HKB.out _ HBw).2.1)
    | (go_at_call 71; refine (feedLost_nil _).mono ?_; rintro e wn ⟨rfl, hbn⟩; replace HBw := bel_trans HBw hbn; clear hbn; replace hc0 := (HKB.out _ HBw).1; replace hc4 := (HKB.out _ HBw).2.1)
    | (go_at_call 43; refine (rttRto_nil _).mono ?_; rintro e wn ⟨rfl, hbn⟩; replace HBw := bel_trans HBw hbn; clear hbn; replace hc0 := (HKB.out _ HBw).1; replace hc4 := (HKB.out _ HBw).2.1)
    | (go_at_call 66; refine (rsetMax_nil _).mono ?_; rintro e wn ⟨rfl, hbn⟩; replace HBw := bel_trans HBw hbn; clear hbn; replace hc0 := (HKB.out _ HBw).1; replace hc4 := (HKB.out _ HBw).2.1)
    | (go_at_call 67; refine (rsetLen_nil _).mono ?_; rintro e wn ⟨rfl, hbn⟩; replace HBw := bel_trans HBw hbn; clear hbn; replace hc0 := (HKB.out _ HBw).1; replace hc4 := (HKB.out _ HBw).2.1)
    | (go_at_call 55; refine (gotPut_nil _).mono ?_; rintro e wn ⟨rfl, hbn⟩; replace HBw := bel_trans HBw hbn; clear hbn; replace hc0 := (HKB.out _ HBw).1; replace hc4 := (HKB.out _ HBw).2.1)
    | (go_at_call 56; refine (gotCells_nil _).mono ?_; rintro e wn ⟨rfl, hbn⟩; replace HBw := bel_trans HBw hbn; clear hbn; replace hc0 := (HKB.out _ HBw).1; replace hc4 := (HKB.out _ HBw).2.1)
    | (go_at_call 57; refine (gotHas_nil _).mono ?_; rintro e wn ⟨rfl, hbn⟩; replace HBw := bel_trans HBw hbn; clear hbn; replace hc0 := (HKB.out _ HBw).1; replace hc4 := (HKB.out _ HBw).2.1)
    | (go_at_call 63; refine (winSent_nil _).mono ?_; rintro e wn ⟨rfl, hbn⟩; replace HBw := bel_trans HBw hbn; clear hbn; replace hc0 := (HKB.out _ HBw).1; replace hc4 := (HKB.out _ HBw).2.1)
    | (go_at_call 68; refine (tfrcFire_nil _).mono ?_; rintro e wn ⟨rfl, hbn⟩; replace HBw := bel_trans HBw hbn; clear hbn; replace hc0 := (HKB.out _ HBw).1; replace hc4 := (HKB.out _ HBw).2.1)
    | (go_at_call 69; refine (tfrcRate_nil _).mono ?_; rintro e wn ⟨rfl, hbn⟩; replace HBw := bel_trans HBw hbn; clear hbn; replace hc0 := (HKB.out _ HBw).1; replace hc4 := (HKB.out _ HBw).2.1)
    | (go_at_call 72; refine (tfrcNew_nil _).mono ?_; rintro e wn ⟨rfl, hbn⟩; replace HBw := bel_trans HBw hbn; clear hbn; replace hc0 := (HKB.out _ HBw).1; replace hc4 := (HKB.out _ HBw).2.1)
    | (go_at_call 33; refine (HRA.out _ (HKB.out _ HBw).2.2).mono ?_; rintro e wn ⟨rfl, hbn⟩; replace HBw := bel_trans HBw hbn; clear hbn; replace hc0 := (HKB.out _ HBw).1; replace hc4 := (HKB.out _ HBw).2.1)
    | (go_at_call 21; refine (vecPut_none _ _ _ (c2_bad _) rfl).mono ?_; rintro e wn ⟨rfl, hbn⟩; replace HBw := bel_trans (bel_trans HBw (bel_alloc _ _)) hbn; clear hbn))
  go_ret
  exact ⟨rfl, (HKB.out _ HBw).2.2⟩
end Go.Proofs.YtnffdacajdjeoaaGreatDoor
