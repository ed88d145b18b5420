/-
  The law OptMany, walked.
-/
import Derived.Test.YtdlpapchjjbplaaGreatDoorLawSum
import Derived.Test.YtdlpapchjjbplaaGreatDoorNumA
import Derived.Test.YtdlpapchjjbplaaGreatDoorRefOpt2
import Derived.Test.YtdlpapchjjbplaaGreatDoorOptMath2
import Derived.Test.YtdlpapchjjbplaaGreatDoorPktE
import Derived.Deep.DeepCutAuto
namespace Go.Proofs.YtdlpapchjjbplaaGreatDoor
open Go.ChangeShapes Go.WideShapes Go.ChangeAt Go.RowKit
set_option linter.unusedVariables false

theorem bad_none (os : List M.Opt) : ∀ w, (∀ o ∈ os, 2 ≤ o.t) → badF w os = (w && os.isEmpty) := by
  induction os with
  | nil => intro w _; simp [badF]
  | cons o os ih =>
    intro w h
    have h1 := h o (by simp)
    unfold badF
    rw [if_neg (by omega), if_neg (by omega), ih _ (fun x hx => h x (by simp [hx]))]
    rw [decide_eq_false (by omega)]
    simp
theorem want_all (os : List M.Opt) (h : ∀ o ∈ os, 2 ≤ o.t) : wantO os = os := by
  unfold wantO
  rw [List.filter_eq_self]
  intro o ho
  have := h o ho
  simp; omega
theorem fill_byte (k j : Nat) (b : UInt8) (hj : j < k) : (List.replicate j b ++ List.replicate (k - j) (0 : UInt8)).set j b = List.replicate (j + 1) b ++ List.replicate (k - (j + 1)) 0 := by
  have e : List.replicate (k - j) (0 : UInt8) = 0 :: List.replicate (k - (j + 1)) 0 := by
    rw [← List.replicate_succ]; congr 1; omega
  rw [e, List.replicate_succ', List.set_append_right _ _ (by simp)]
  simp

set_option maxHeartbeats 8000000 in
set_option maxRecDepth 100000 in
theorem optMany_walk (n sz x : Int) (n1 : -9223372036854775808 ≤ n) (n2 : n ≤ 9223372036854775807) (x1 : 0 ≤ x) (x2 : x ≤ 255) (w : World) :
    Calls Tryz.prog 14 #[.int .i64 n, .int .i64 sz, .int .u8 x] w fun e w' => e = .returned (.bool true) ∧ Below w.heap.size w w' := by
  obtain ⟨a1, a2⟩ := tmod_lim n 40 (by omega)
  obtain ⟨k1, hk1⟩ : ∃ k, n.tmod 40 = k := ⟨_, rfl⟩
  rw [hk1] at a1 a2
  have a5 : 0 ≤ (k1 + 40).tmod 40 := Int.tmod_nonneg _ (by omega)
  obtain ⟨a3, a4⟩ := tmod_lim (k1 + 40) 40 (by omega)
  obtain ⟨q, hq⟩ : ∃ q, (k1 + 40).tmod 40 = q := ⟨_, rfl⟩
  rw [hq] at a3 a4 a5
  obtain ⟨N, hN⟩ : ∃ N : Nat, q = (N : Int) := ⟨q.toNat, by omega⟩
  subst hN
  have hN40 : N < 40 := by omega
  clear a3 a4 a5
  go_enter Tryz.func14, Tryz.ntmps14
  go_wp2_with (first
    | (go_at_call 15; refine (begun_any _).mono ?_; rintro e w0 ⟨rfl, hb0⟩))
  have HB0 := Lib.hid hb0
  clear hb0 hk1 hq a1 a2
  have HNIL := Lib.hid (OptsOwn.nil w0)
  go_loopw [8, 9] (fun v i wr => ∃ (os : List M.Opt) (j : Nat), i = .int .i64 (j : Int) ∧ j ≤ N ∧ Hid (OptsOwn w0.heap.size v os w0 wr) ∧ Hid (os.length ≤ 2 * j ∧ (0 < j → os ≠ []) ∧ os.all M.optMay = true ∧ ∀ o ∈ os, 2 ≤ o.t)) (fun _ i _ => N - (intOf i).toNat)
  case atStart => exact ⟨[], 0, rfl, by omega, HNIL, Lib.hid ⟨by simp, by simp, by simp, by simp⟩⟩
  case round =>
    obtain ⟨os, j, rfl, hj, hown, hos⟩ := hrel
    by_cases hjN : j < N
    · obtain ⟨wo, rfl⟩ : ∃ wo : World, wo = wr := ⟨_, rfl⟩
      obtain ⟨y, hy⟩ : ∃ y, wrap64 (sz + (j : Int) * 7) = y := ⟨_, rfl⟩
      obtain ⟨b1, b2⟩ := tmod_lim y 254 (by omega)
      obtain ⟨m1, hm1⟩ : ∃ k, y.tmod 254 = k := ⟨_, rfl⟩
      rw [hm1] at b1 b2
      have b5 : 0 ≤ (m1 + 254).tmod 254 := Int.tmod_nonneg _ (by omega)
      obtain ⟨b3, b4⟩ := tmod_lim (m1 + 254) 254 (by omega)
      obtain ⟨r, hr⟩ : ∃ q, (m1 + 254).tmod 254 = q := ⟨_, rfl⟩
      rw [hr] at b3 b4 b5
      obtain ⟨k, hk⟩ : ∃ k : Nat, r = (k : Int) := ⟨r.toNat, by omega⟩
      subst hk
      have hk254 : k < 254 := by omega
      clear b3 b4 b5
      have h7 : (j : Int) * 7 ≤ 280 := by omega
      go_upto_region 11 with (at_make; refine wp_row rfl _ _ rfl _ _ _ _ k rfl rfl rfl (by omega) ?_; rintro w1 _ rfl hgl hb1 hr1)
      clear hm1 hr hy b1 b2 h7
      obtain ⟨C, hC⟩ : ∃ C : Int, (x + (j : Int)) % 256 = C := ⟨_, rfl⟩
      obtain ⟨cb, hcb⟩ : ∃ b : UInt8, C = (b.toNat : Int) := ⟨UInt8.ofNat C.toNat, by rw [UInt8.toNat_ofNat', Nat.mod_eq_of_lt (show C.toNat < 2 ^ 8 by omega)]; omega⟩
      have HCB := Lib.hid hcb
      have hj40 : j < 40 := by omega
      obtain ⟨T0, hT0⟩ : ∃ T : Int, ((j : Int) * 5) % 224 = T := ⟨_, rfl⟩
      have hT1 : ((j : Int) * 5).tmod 224 = T0 := by rw [Int.tmod_eq_emod_of_nonneg (by omega), hT0]
      have hT2 : 0 ≤ T0 ∧ T0 < 224 := by omega
      obtain ⟨R3, hR0⟩ : ∃ T : Int, (j : Int) % 3 = T := ⟨_, rfl⟩
      have hR1 : (j : Int).tmod 3 = R3 := by rw [Int.tmod_eq_emod_of_nonneg (by omega), hR0]
      have hR2 : 0 ≤ R3 ∧ R3 < 3 := by omega
      obtain ⟨T4, hT4⟩ : ∃ T : Int, (j : Int) % 30 = T := ⟨_, rfl⟩
      have hT5 : (j : Int).tmod 30 = T4 := by rw [Int.tmod_eq_emod_of_nonneg (by omega), hT4]
      have hT6 : 0 ≤ T4 ∧ T4 < 30 := by omega
      clear hcb
      have HB1 := Lib.hid hb1; have HR1 := Lib.hid hr1
      clear hb1 hr1 hgl
      generalize hg : wo.heap.size = g at *
      have HG := Lib.hid hg
      clear hg
      go_wp2_with fail
      go_loopw [39] (fun i wx => ∃ m : Nat, i = .int .i64 (m : Int) ∧ m ≤ k ∧ Hid (Below g wo wx) ∧ Hid (rowAt wx g k (List.replicate m cb ++ List.replicate (k - m) 0))) (fun i _ => k - (intOf i).toNat)
      case atStart => exact ⟨0, rfl, by omega, HB1, Lib.hid (by simpa using HR1.out)⟩
      case round =>
        obtain ⟨m, rfl, hm, hbx, hrow⟩ := hrel
        by_cases hmk : m < k
        · have hml : m < (List.replicate m cb ++ List.replicate (k - m) (0 : UInt8)).length := by simp; omega
          have hcell := row_cell hrow.out m hml
          have hfree := row_free hrow.out m
          unfold byteV at hcell
          have hset := row_set hrow.out m cb C HCB.out hml
          rw [fill_byte k m cb hmk] at hset
          have HSET := Lib.hid hset
          clear hset
          go_wp2
          refine ⟨⟨m + 1, by go_num, by omega, Lib.hid (hbx.out.setCell (p := ⟨g, m, none⟩) (Nat.le_refl _) _), HSET⟩, ?_⟩
          simp [intOf]; omega
        · obtain rfl : m = k := by omega
          have hr2 := hrow.out
          rw [Nat.sub_self, List.replicate_zero, List.append_nil] at hr2
          have hcv := convert_row hr2
          rw [List.length_replicate] at hcv
          obtain ⟨dl, hdl⟩ : ∃ dl, List.replicate m cb = dl := ⟨_, rfl⟩
          rw [hdl] at hcv
          have hdll : dl.length ≤ 253 := by rw [← hdl]; simp; omega
          obtain ⟨ds, hds⟩ : ∃ ds, str dl = ds := ⟨_, rfl⟩
          rw [hds] at hcv
          have HDS := Lib.hid hds
          have hbw : Below wo.heap.size wo wr := by rw [HG.out]; exact hbx.out
          have hown2 := hown.out.kept hbw
          have hlen := hos.out.1
          have hlen2 : os.length ≤ 1073741824 := by omega
          have HOW2 := Lib.hid hown2
          clear hr2 hdl hds hbw hown2
          go_upto_region 17 with (at_builtin; refine wp_opt rfl _ _ rfl _ _ os rfl w0 wr _ ⟨32 + T0, dl⟩ (by unfold OvBox; rw [HDS.out]) HOW2.out _ rfl rfl hlen2 ?_; intro v2 w2 hb2)
          have hp1 : M.optMay ⟨32 + T0, dl⟩ = true := decide_eq_true ⟨by show 0 ≤ 32 + T0; omega, by show 32 + T0 ≤ 255; omega, .inr ⟨by show 32 ≤ 32 + T0; omega, hdll⟩⟩
          have hp2 : M.optMay ⟨2 + T4, []⟩ = true := decide_eq_true ⟨by show 0 ≤ 2 + T4; omega, by show 2 + T4 ≤ 255; omega, .inl ⟨by show 2 + T4 < 32; omega, rfl⟩⟩
          have HQ1 : Hid ((os ++ [(⟨32 + T0, dl⟩ : M.Opt)]).length ≤ 2 * (j + 1) ∧ (0 < j + 1 → os ++ [(⟨32 + T0, dl⟩ : M.Opt)] ≠ []) ∧ (os ++ [(⟨32 + T0, dl⟩ : M.Opt)]).all M.optMay = true ∧ ∀ o ∈ os ++ [(⟨32 + T0, dl⟩ : M.Opt)], 2 ≤ o.t) := Lib.hid (by
            refine ⟨by rw [List.length_append]; simp; omega, fun _ => by simp, by rw [List.all_append, hos.out.2.2.1]; simp [hp1], fun o ho => ?_⟩
            rcases List.mem_append.1 ho with h | h
            · exact hos.out.2.2.2 o h
            · obtain rfl := List.mem_singleton.1 h
              show 2 ≤ 32 + T0; omega)
          have HQ2 : Hid ((os ++ [(⟨32 + T0, dl⟩ : M.Opt)] ++ [(⟨2 + T4, []⟩ : M.Opt)]).length ≤ 2 * (j + 1) ∧ (0 < j + 1 → os ++ [(⟨32 + T0, dl⟩ : M.Opt)] ++ [(⟨2 + T4, []⟩ : M.Opt)] ≠ []) ∧ (os ++ [(⟨32 + T0, dl⟩ : M.Opt)] ++ [(⟨2 + T4, []⟩ : M.Opt)]).all M.optMay = true ∧ ∀ o ∈ os ++ [(⟨32 + T0, dl⟩ : M.Opt)] ++ [(⟨2 + T4, []⟩ : M.Opt)], 2 ≤ o.t) := Lib.hid (by
            refine ⟨by rw [List.length_append, List.length_append]; simp; omega, fun _ => by simp, by rw [List.all_append, HQ1.out.2.2.1]; simp [hp2], fun o ho => ?_⟩
            rcases List.mem_append.1 ho with h | h
            · exact HQ1.out.2.2.2 o h
            · obtain rfl := List.mem_singleton.1 h
              show 2 ≤ 2 + T4; omega)
          have hlen3 : (os ++ [(⟨32 + T0, dl⟩ : M.Opt)]).length ≤ 1073741824 := by rw [List.length_append]; simp; omega
          have HO2 := Lib.hid hb2
          clear hp1 hp2 hb2 hlen hlen2 hcv
          by_cases hR3 : R3 = 1
          · subst hR3
            go_wp2_with (at_builtin; refine wp_opt rfl _ _ rfl _ _ _ rfl w0 w2 _ ⟨2 + T4, []⟩ rfl HO2.out _ rfl rfl hlen3 ?_; intro v3 w3 hb3)
            refine ⟨⟨_, j + 1, by go_num, by omega, Lib.hid hb3, HQ2⟩, ?_⟩
            simp [intOf]; omega
          · have hR4 : (R3 == 1) = false := by rw [beq_eq_false_iff_ne]; exact hR3
            clear hR3
            go_wp2
            refine ⟨⟨_, j + 1, by go_num, by omega, HO2, HQ1⟩, ?_⟩
            simp [intOf]; omega
    · obtain rfl : j = N := by omega
      obtain ⟨h1, h2, h3, h4⟩ := hos.out
      have hdat : ∀ o ∈ os, o.d.length ≤ maxLen := fun o ho => by
        have hm : 0 ≤ o.t ∧ o.t ≤ 255 ∧ (o.t < 32 ∧ o.d.length = 0 ∨ 32 ≤ o.t ∧ o.d.length ≤ 253) := of_decide_eq_true ((List.all_eq_true.1 h3) o ho)
        unfold maxLen; omega
      have hget : M.getOpts (M.putOpts os) = some os := by
        rw [get_put os h3, bad_none os false h4, want_all os h4]; rfl
      have hl4 := putOpts_len4 os
      have hll := putOpts_le os (by omega)
      have HP := Lib.hid (optPut_at (hown.out.at (by omega) hdat))
      have hsm : (M.putOpts os).length ≤ 1073741824 := by
        have := M.optsBytes_len os h3
        have := M.pad4_len (M.optsBytes os)
        unfold M.putOpts; rw [if_pos h3]; omega
      have HG := Lib.hid (fun W => optGet_yes (l := M.putOpts os) hsm hget W)
      have HAT1 : Hid (∀ W, Below wr.heap.size wr W → OptsAt W u8 os) := Lib.hid (fun W hb => (hown.out.kept hb).at (by omega) hdat)
      have HAT2 : Hid (∀ (B : Nat) (v : Value) (W0 W : World), OptsOwn B v os W0 W → OptsAt W v os) := Lib.hid (fun B v W0 W h => h.at (by omega) hdat)
      obtain ⟨ps, hps⟩ : ∃ b, str (M.putOpts os) = b := ⟨_, rfl⟩
      obtain ⟨E, hE⟩ : ∃ E : Int, (ps.size : Int) = E := ⟨_, rfl⟩
      have hE1 : E = ((M.putOpts os).length : Int) := by rw [← hE, ← hps]; rfl
      have hE2 : E % 4 = 0 := by omega
      have hE3 : E.tmod 4 = 0 := by rw [Int.tmod_eq_emod_of_nonneg (by omega), hE2]
      have hE4 : 0 ≤ E := by omega
      have HZ : Hid (j = 0 → ps = ⟨#[]⟩) := Lib.hid (fun h => by
        have : os = [] := List.eq_nil_of_length_eq_zero (by omega)
        rw [← hps, this]; rfl)
      have HBW := Lib.hid hown.out.2.1
      unfold PutEnd at HP
      rw [hps] at HP HG
      clear hps hE1 hget hl4 hll hsm hdat h1 h2 h3 h4
      go_upto_region 21 with (first
        | (go_at_call 38; (with_reducible refine (HP.out).mono ?_); rintro e w1 ⟨rfl, hb1⟩)
        | (go_at_call 33; (with_reducible refine (HG.out _).mono ?_); rintro e w2 ⟨p2, n2, c2, rfl, ho2⟩))
      have hat1 := HAT1.out w2 (bel_trans hb1 ho2.2.1)
      have hat2 := HAT2.out _ _ _ _ ho2
      have HOS := Lib.hid (opts_same w2 _ _ os hat2 hat1)
      have HFB : Hid (Below w.heap.size w w2) := Lib.hid (bel_trans HB0.out (bel_trans HBW.out (bel_trans hb1 ho2.2.1)))
      clear hb1 ho2 hat1 hat2
      by_cases hj0 : j = 0
      · have hz := HZ.out hj0
        subst hz hj0
        clear hE
        go_wp2_with (go_at_call 35; (with_reducible refine HOS.out.mono ?_); rintro e w3 ⟨rfl, n3, rfl⟩)
        go_ret
        exact ⟨rfl, bel_trans HFB.out (bel_drewN _ _)⟩
      · have hj1 : 0 < j := by omega
        have hj2 : decide ((0 : Int) < (j : Int)) = true := decide_eq_true (by omega)
        clear hj0
        go_wp2_with (go_at_call 35; (with_reducible refine HOS.out.mono ?_); rintro e w3 ⟨rfl, n3, rfl⟩)
        go_ret
        exact ⟨rfl, bel_trans HFB.out (bel_drewN _ _)⟩
end Go.Proofs.YtdlpapchjjbplaaGreatDoor
