/-
  The law PktNone, walked: closed.
-/
import Derived.Test.YtjbcjcfmjagbkaaGreatDoorLawCode2
import Derived.Test.YtjbcjcfmjagbkaaGreatDoorCodeR
import Derived.Test.YtjbcjcfmjagbkaaGreatDoorBegunM
namespace Go.Proofs.YtjbcjcfmjagbkaaGreatDoor
open Go.ChangeShapes Go.WideShapes Go.ChangeAt Go.RowKit
set_option linter.unusedVariables false
set_option linter.unusedSimpArgs false

theorem nn_pkt (w : World) : Calls Tryz.prog 40 #[.string ⟨#[]⟩] w fun e w' => e = .returned (.tuple #[Pv0, .int .i64 1]) ∧ Below w.heap.size w w' :=
  (pktGet_any [] (by decide) w).mono fun e w' hh => ⟨by
    have h1 : getErr [] = 1 := by decide +kernel
    rw [hh.2.1 (by rw [h1]; decide), h1]; rfl, hh.1⟩
theorem nn_head (w : World) : Calls Tryz.prog 25 #[.string ⟨#[115, 104, 111, 114, 116]⟩] w fun e w' => e = .returned (.tuple #[Hd.zero.val, .int .i64 1]) ∧ Below w.heap.size w w' := by
  have h1 : faultN [115, 104, 111, 114, 116] = 1 := by decide +kernel
  have h := get_no [115, 104, 111, 114, 116] (by decide) w (by rw [h1]; decide)
  rw [h1] at h
  exact h
theorem nn_opt (w : World) : Calls Tryz.prog 48 #[.string ⟨#[]⟩] w fun e w' => ∃ p cap, e = .returned (.tuple #[.slice p 0 cap, .int .i64 0]) ∧ Below w.heap.size w w' :=
  (optGet_yes (l := []) (os := []) (by decide) rfl w).mono fun e w' hh => by
    obtain ⟨p, n, cap, rfl, ho⟩ := hh
    have hn : n = 0 := by
      rcases ho.1.2 with ⟨h, h0⟩ | ⟨g, c2, cur, h, _⟩
      · cases h; rfl
      · cases h; rfl
    subst hn
    exact ⟨p, cap, rfl, ho.2.1⟩
theorem nn_sc (w : World) : Calls Tryz.prog 29 #[.string ⟨#[83, 67, 58]⟩] w fun e w' => e = .returned (.tuple #[.int .u32 0, .bool false]) ∧ Below w.heap.size w w' := by
  have h := service_any [83, 67, 58] (by decide) w
  rw [show M.serv [83, 67, 58] = none by decide +kernel] at h
  exact h
theorem nn_max (w : World) : Calls Tryz.prog 29 #[.string ⟨#[83, 67, 61, 52, 50, 57, 52, 57, 54, 55, 50, 57, 53]⟩] w fun e w' => e = .returned (.tuple #[.int .u32 0, .bool false]) ∧ Below w.heap.size w w' := by
  have h := service_any [83, 67, 61, 52, 50, 57, 52, 57, 54, 55, 50, 57, 53] (by decide) w
  rw [show M.serv [83, 67, 61, 52, 50, 57, 52, 57, 54, 55, 50, 57, 53] = none by decide +kernel] at h
  exact h
theorem nn_reason (w : World) : Calls Tryz.prog 34 #[.string ⟨#[97]⟩, .int .i64 (-1)] w fun e w' => e = .returned (.string ⟨#[]⟩) ∧ Below w.heap.size w w' := by
  have h := codeReason_any [97] (-1) (by decide) (by decide) (by decide) w
  rw [show M.reason [97] (-1 : Int).toNat = [] by decide +kernel] at h
  exact h
theorem nn_text (w : World) (ht : Tab10 w) : Calls Tryz.prog 31 #[.int .u32 0] w fun e w' => e = .returned (.string ⟨#[83, 67, 61, 48]⟩) ∧ Below w.heap.size w w' := by
  have h := codeText_any 0 (by decide) w (fun _ => ht)
  rw [show M.codeText 0 = [83, 67, 61, 48] by decide +kernel] at h
  exact h
theorem nn_sum (w : World) : Calls Tryz.prog 50 #[.slice none 0 0] w fun e w' => e = .returned (.int .i64 65535) ∧ w = w' := by
  have h := sumOf_at (w := w) (v := .slice none 0 0) (ss := []) ⟨.inl ⟨rfl, none, 0, rfl⟩, by decide, by simp, by decide⟩
  rw [show M.sum16 (M.joined []) = 65535 by decide +kernel] at h
  exact h
theorem nn_muldiv (w : World) : Calls Tryz.prog 52 #[.int .u64 0, .int .u64 0, .int .u64 0] w fun e w' => e = .returned (.int .u64 18446744073709551615) ∧ Below w.heap.size w w' :=
  (fixMulDiv_any 0 0 0 (by decide) (by decide) (by decide) w).mono fun e w' hh => by
    obtain ⟨h1, n, rfl⟩ := hh
    exact ⟨by rw [h1, show M.mulDivT 0 0 0 = 18446744073709551615 by decide +kernel]; rfl, bel_drewN w n⟩
theorem nn_sqrt (w : World) : Calls Tryz.prog 51 #[.int .u64 0] w fun e w' => e = .returned (.int .u64 0) ∧ w = w' :=
  (fixSqrt_any 0 (by decide) w).mono fun e w' hh => ⟨by rw [hh.1, show M.isq 0 = 0 by decide +kernel]; rfl, hh.2⟩
theorem nn_diff (w : World) : Calls Tryz.prog 53 #[.int .u64 140737488355328, .int .u64 0] w fun e w' => e = .returned (.int .i64 (-140737488355328)) ∧ w = w' :=
  (seqDiff_any 140737488355328 0 (by decide) (by decide) w).mono fun e w' hh => ⟨by rw [hh.1]; rfl, hh.2⟩
theorem nn_size1 (w : World) : Calls Tryz.prog 23 #[.int .i64 10, .bool true] w fun e w' => e = .returned (.int .i64 0) ∧ w = w' :=
  (size_any 10 true w).mono fun e w' hh => ⟨by rw [hh.1]; rfl, hh.2⟩
theorem nn_size2 (w : World) : Calls Tryz.prog 23 #[.int .i64 7, .bool false] w fun e w' => e = .returned (.int .i64 0) ∧ w = w' :=
  (size_any 7 false w).mono fun e w' hh => ⟨by rw [hh.1]; rfl, hh.2⟩
theorem nn_put (w : World) : Calls Tryz.prog 49 #[.slice none 0 0] w fun e w' => e = .returned (.string ⟨#[]⟩) ∧ Below w.heap.size w w' := optPut_none none 0 w

set_option maxHeartbeats 8000000 in
set_option maxRecDepth 100000 in
theorem pktNone_walk (w : World) (ht : Tab10 w) :
    Calls Tryz.prog 9 #[] w fun e w' => e = .returned (.bool true) ∧ Below w.heap.size w w' := by
  have HT := Lib.hid ht
  clear ht
  go_enter Tryz.func9, Tryz.ntmps9
  go_upto_region 2 with (first
    | (go_at_call 40; refine (nn_pkt _).mono ?_; rintro e w1 ⟨rfl, hb1⟩)
    | (refine store_pk rfl _ _ rfl _ Hd.zero Hd.zero _ _ ⟨#[]⟩ none 0 0 rfl rfl (pk_new_at _ _ rfl) ?_; intro W2 hp2 hg2))
  have hb2 : Below w.heap.size w W2 := (bel_trans hb1 (bel_alloc _ _)).grown hg2 (bel_trans hb1 (bel_alloc _ _)).size (fun k hk => by cases hk; exact hb1.size)
  have HB2 := Lib.hid hb2
  clear hb1 hb2 hp2 hg2
  go_upto_region 3 with (first
    | (go_at_call 25; refine (nn_head _).mono ?_; rintro e w3 ⟨rfl, hb3⟩)
    | (refine store_blk rfl _ _ rfl _ Hd.zero Hd.zero rfl rfl (hd_new _) ?_; intro W4 hc4 hg4))
  have hb4 : Below w.heap.size w W4 := (bel_trans HB2.out (bel_trans hb3 (bel_alloc _ _))).grown hg4 (bel_trans HB2.out (bel_trans hb3 (bel_alloc _ _))).size (fun k hk => by cases hk; exact (bel_trans HB2.out hb3).size)
  have HB4 := Lib.hid hb4
  clear hb3 hb4 hc4 hg4 HB2
  go_upto_region 6 with (first
    | (go_at_call 48; refine (nn_opt _).mono ?_; rintro e w5 ⟨p, cap, rfl, hb5⟩)
    | (go_at_call 29; ((with_reducible refine (nn_sc _).mono ?_); rintro e w6 ⟨rfl, hb6⟩))
    | (go_at_call 29; ((with_reducible refine (nn_max _).mono ?_); rintro e w7 ⟨rfl, hb7⟩)))
  have HB7 := Lib.hid (bel_trans HB4.out (bel_trans hb5 (bel_trans hb6 hb7)))
  clear hb5 hb6 hb7 HB4
  go_wp2_with (first
    | (go_at_call 17; refine (begun_any _).mono ?_; rintro e w0 ⟨rfl, hb0⟩)
    | (go_at_call 23; ((with_reducible refine (nn_size1 _).mono ?_); rintro e w8 ⟨rfl, rfl⟩))
    | (go_at_call 23; ((with_reducible refine (nn_size2 _).mono ?_); rintro e w9 ⟨rfl, rfl⟩))
    | (go_at_call 49; refine (nn_put _).mono ?_; rintro e wa ⟨rfl, hba⟩)
    | (go_at_call 34; refine (nn_reason _).mono ?_; rintro e wb ⟨rfl, hbb⟩)
    | (go_at_call 31; refine (nn_text _ (((HT.out.below (bel_trans HB7.out hb0)).below hba).below hbb)).mono ?_; rintro e wc ⟨rfl, hbc⟩)
    | (go_at_call 50; refine (nn_sum _).mono ?_; rintro e wd ⟨rfl, rfl⟩)
    | (go_at_call 51; refine (nn_sqrt _).mono ?_; rintro e we ⟨rfl, rfl⟩)
    | (go_at_call 52; refine (nn_muldiv _).mono ?_; rintro e wf ⟨rfl, hbf⟩)
    | (go_at_call 53; refine (nn_diff _).mono ?_; rintro e wg ⟨rfl, rfl⟩))
  go_ret
  exact ⟨rfl, bel_trans HB7.out (bel_trans hb0 (bel_trans hba (bel_trans hbb (bel_trans hbc hbf))))⟩
end Go.Proofs.YtjbcjcfmjagbkaaGreatDoor
