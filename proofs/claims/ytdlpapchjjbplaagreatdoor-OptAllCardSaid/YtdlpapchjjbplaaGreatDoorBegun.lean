/-
  The opening check of the laws answers true.
-/
import Derived.Test.YtdlpapchjjbplaaGreatDoorBegunB
namespace Go.Proofs.YtdlpapchjjbplaaGreatDoor
open Go.ChangeShapes Go.WideShapes Go.ChangeAt Go.RowKit
set_option linter.unusedVariables false

set_option maxHeartbeats 1600000 in
set_option maxRecDepth 100000 in
theorem begun_any (w : World) : Calls Tryz.prog 15 #[] w fun e w' => e = .returned (.bool true) ∧ Below w.heap.size w w' := by
  go_enter Tryz.func15, Tryz.ntmps15
  go_upto_region 2 with (refine store_blk rfl _ _ rfl _ Hd.zero bgHd rfl rfl (hd_new _) ?_; intro W1 hc1 hg1)
  have hb1 : Below w.heap.size w W1 := (bel_alloc w _).grown hg1 (by simp) (fun k hk => by cases hk; exact Nat.le_refl _)
  go_upto_region 3 with (first
    | (refine load_blk rfl _ rfl _ rfl _ hc1 ?_)
    | (refine store_pk rfl _ _ rfl _ Hd.zero bgHd _ _ (str bgD) _ _ _ rfl rfl (pk_new_at _ _ (by simp)) ?_; intro W2 hp2 hg2))
  have hs4 : W2.heap[W1.heap.size]? = some (.cells #[.int .i64 2, .string ⟨#[]⟩, .int .i64 40, .string ⟨#[120, 121]⟩] 54) := by
    rw [hg2.block _ (by simp; omega) (by simp), Below.heap_alloc _ _ _ (by simp)]
    exact heap_alloc_new W1 _
  have hos : OptsAt W2 (.slice (some ⟨W1.heap.size, 0, none⟩) 2 2) bgOs := by
    refine ⟨.inr ⟨W1.heap.size, 0, 2, rfl, ?_, fun i hi => ?_⟩, by decide, by decide⟩
    · have := hg2.size; simp at this; omega
    · rw [cell_of_row _ _ _ _ _ _ hs4, cell_of_row _ _ _ _ _ _ hs4]
      have : i = 0 ∨ i = 1 := by simp [bgOs] at hi; omega
      rcases this with rfl | rfl <;> exact ⟨rfl, rfl⟩
  have hb2 : Below w.heap.size w W2 := ((hb1.alloc hb1.size _).alloc (by have := hb1.size; simp; omega) _).grown hg2 (by have := hb1.size; simp; omega) (fun k hk => by have h2 := hb1.size; have h3 := Option.some.inj hk; omega)
  have HPUT := Lib.hid (pktPut_any bgHd bgHd_ok _ bgOs bgD W2 hos (by decide))
  have HGET := Lib.hid (fun W => pktGet_yes (l := bgB) (os := bgOs) (by rw [bg_len]; decide) bg_get bg_os W)
  unfold PutPk at HPUT
  rw [bg_err, show putText bgHd bgOs bgD = bgB from rfl] at HPUT
  have hB : str bgB = str bgB := rfl
  have hBs : (str bgB).size = 37 := bg_len
  rw [bg_d] at HGET
  have hoff : (getHd bgB).off = 8 := bg_off
  obtain ⟨SB, hSB⟩ : ∃ SB, str bgB = SB := ⟨_, rfl⟩
  rw [hSB] at hBs HPUT HGET
  obtain ⟨G, hG⟩ : ∃ G, getHd bgB = G := ⟨_, rfl⟩
  rw [hG] at hoff HGET
  have HB2 := Lib.hid hb2; have HP2 := Lib.hid hp2
  clear hb1 hg1 hc1 hg2 hos hs4 hb2 hp2 hB hSB hG
  go_upto_region 4 with (first
    | (refine load_pk rfl _ rfl _ rfl _ _ _ HP2.out ?_)
    | (go_at_call 44; refine HPUT.out.mono ?_; rintro e W3 ⟨rfl, hb3⟩))
  have hb3' : Below w.heap.size w W3 := HB2.out.trans (hb3.mono HB2.out.size)
  have HB3 := Lib.hid hb3'
  clear hb3 hb3' HB2 HP2 HPUT
  rw [show bgOs.length = 2 from rfl] at HGET
  have HG2 := Lib.hid hoff
  clear hoff
  go_upto_region 5 with (first
    | (go_at_call 45; refine (HGET.out _).mono ?_; rintro e W4 ⟨p, cap, rfl, ho4⟩)
    | (refine store_pk rfl _ _ rfl _ Hd.zero G _ _ (str bgD) p 2 cap rfl rfl (pk_new_at _ _ rfl) ?_; intro W5 hp5 hg5))
  have hb4 : Below w.heap.size w W4 := HB3.out.trans (ho4.2.1.mono HB3.out.size)
  have hb5 : Below w.heap.size w W5 := (hb4.alloc hb4.size _).grown hg5 (by have := hb4.size; simp; omega) (fun k hk => by have h2 := hb4.size; have h3 := Option.some.inj hk; omega)
  have HP5 := Lib.hid hp5; have HB5 := Lib.hid hb5
  clear hb4 hb5 hg5 hp5 ho4 HB3 HGET
  generalize W4.heap.size = C at *
  go_upto_region 6 with (go_at_call 46; refine (service_ab _).mono ?_; rintro e W6 ⟨rfl, hb6⟩)
  have hp6 := HP5.out.below hb6
  have hb6' : Below w.heap.size w W6 := HB5.out.trans (hb6.mono HB5.out.size)
  have HP6 := Lib.hid hp6; have HB6 := Lib.hid hb6'
  clear hb6 hb6' hp6 HP5 HB5
  have HST : Hid (str bgD = ⟨#[104, 101, 108, 108, 111]⟩) := Lib.hid rfl
  rw [HST.out] at HP6
  go_wp2_with (first
    | (go_at_call 47; refine (bg_muldiv _).mono ?_; rintro e W7 ⟨rfl, hb7⟩; have hp8 := (HP6.out.below hb7).below (bel_alloc W7 (.cells #[.string ⟨#[1, 2]⟩] 9)); have HB7 := Lib.hid (HB6.out.trans (hb7.mono HB6.out.size)); have c15 := hp8.cells.1; have c16 := hp8.cells.2; have c2 := hp8.range 2 (.int .i64 G.off) rfl; rw [HG2.out, Nat.zero_add] at c2; clear hp8 hb7)
    | (go_at_call 48; refine (bg_sqrt _).mono ?_; rintro e w1 ⟨rfl, rfl⟩)
    | (go_at_call 49; refine (bg_diff _).mono ?_; rintro e w1 ⟨rfl, rfl⟩)
    | (go_at_call 50; refine (bg_add _).mono ?_; rintro e w1 ⟨rfl, rfl⟩)
    | (go_at_call 19; refine (bg_sum _).mono ?_; rintro e w1 ⟨rfl, rfl⟩)
    | (go_at_call 27; refine (bg_size _).mono ?_; rintro e w1 ⟨rfl, rfl⟩)
    | (go_at_call 51; refine (text_ab _).mono ?_; rintro e W8 ⟨rfl, hb8⟩)
    | (go_at_call 43; refine (optBytes_258 _).mono ?_; rintro e W9 ⟨rfl, hb9⟩))
  go_ret
  exact ⟨rfl, ((HB7.out.alloc HB7.out.size _).trans (hb8.mono (by have := HB7.out.size; simp; omega))).trans (hb9.mono (by have := HB7.out.size; have := hb8.size; simp at this; omega))⟩
end Go.Proofs.YtdlpapchjjbplaaGreatDoor
