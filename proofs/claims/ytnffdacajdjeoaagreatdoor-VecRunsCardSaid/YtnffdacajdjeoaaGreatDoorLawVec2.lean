/-
  The law VecRuns, walked.
-/
import Derived.Test.YtnffdacajdjeoaaGreatDoorVecD
import Derived.Test.YtnffdacajdjeoaaGreatDoorVecF
import Derived.Test.YtnffdacajdjeoaaGreatDoorVecG
import Derived.Test.YtnffdacajdjeoaaGreatDoorBegun8
namespace Go.Proofs.YtnffdacajdjeoaaGreatDoor
open Go.ChangeShapes Go.WideShapes Go.ChangeAt Go.RowKit
set_option linter.unusedVariables false
set_option linter.unusedSimpArgs false

/-- The state of three at a place. -/
def triS (j : Nat) : Int := if j = 0 then 0 else if j = 1 then 1 else 3
theorem triS_st (j : Nat) : stB (triS j) = true := by
  unfold triS
  split
  · rfl
  · split
    · rfl
    · rfl
theorem tri_cell (w : World) (j : Nat) (h : j < 3) : (w.alloc (.cells #[.int .i64 0, .int .i64 1, .int .i64 3] 3)).cell? ⟨w.heap.size, j, none⟩ = some (.int .i64 (triS j)) := by
  rw [cell_of_row _ _ _ _ _ _ (heap_alloc_new w _)]
  have : j = 0 ∨ j = 1 ∨ j = 2 := by omega
  rcases this with rfl | rfl | rfl <;> rfl
theorem mod_place (x m : Int) (hm : 0 < m) : ∃ a, x.tmod m = a ∧ -m < a ∧ a < m ∧ ∃ j : Nat, (a + m).tmod m = (j : Int) ∧ (j : Int) < m := by
  refine ⟨x.tmod m, rfl, ?_⟩
  have h : -m < x.tmod m ∧ x.tmod m < m := by
    by_cases h : 0 ≤ x
    · rw [Int.tmod_eq_emod_of_nonneg h]
      have := Int.emod_nonneg x (show m ≠ 0 by omega)
      have := Int.emod_lt_of_pos x hm
      omega
    · have e : x.tmod m = -((-x).tmod m) := by rw [Int.neg_tmod]; omega
      rw [e, Int.tmod_eq_emod_of_nonneg (by omega)]
      have := Int.emod_nonneg (-x) (show m ≠ 0 by omega)
      have := Int.emod_lt_of_pos (-x) hm
      omega
  refine ⟨h.1, h.2, ((x.tmod m + m).tmod m).toNat, ?_, ?_⟩
  · have : 0 ≤ (x.tmod m + m).tmod m := Int.tmod_nonneg _ (by omega)
    omega
  · have h1 : 0 ≤ (x.tmod m + m).tmod m := Int.tmod_nonneg _ (by omega)
    have h2 : (x.tmod m + m).tmod m < m := by rw [Int.tmod_eq_emod_of_nonneg (by omega)]; exact Int.emod_lt_of_pos _ hm
    omega
/-- The state that stands for a number. -/
def triX (x : Int) : Int := triS ((x.tmod 3 + 3).tmod 3).toNat
theorem I64Own.lenV {B : Nat} {v : Value} {l : List Int} {W0 w : World} (h : I64Own B v l W0 w) : ∃ p c, v = .slice p l.length c := by
  rcases h.1.2 with ⟨rfl, h0⟩ | ⟨g, cap, cur, rfl, _⟩
  · exact ⟨none, 0, by rw [h0]⟩
  · exact ⟨_, cap, rfl⟩
theorem st_small (l : List Int) (h : l.all stB = true) (i : Nat) : -9223372036854775808 ≤ l.getD i 0 ∧ l.getD i 0 ≤ 9223372036854775807 := by
  rw [List.getD_eq_getElem?_getD]
  cases hi : l[i]? with
  | none => simp
  | some s =>
    have hm : s ∈ l := List.mem_of_getElem? hi
    have := List.all_eq_true.1 h s hm
    unfold stB at this
    have := of_decide_eq_true this
    simp only [Option.getD_some]
    omega
theorem one_cell (wr : World) (s : Int) : ∀ i, i < ([s] : List Int).length → (wr.alloc (.cells #[.int .i64 s] 3)).cell? ⟨wr.heap.size, 0 + i, none⟩ = some (.int .i64 (([s] : List Int).getD i 0)) := fun i hi => by
  have : i = 0 := by simp at hi; omega
  subst this
  rw [cell_of_row _ _ _ _ _ _ (heap_alloc_new wr _)]; rfl

theorem runs_small (cs : List Cel) (h : runsOk cs) (i : Nat) : -9223372036854775808 ≤ (cs.getD i (0, 0)).2 ∧ (cs.getD i (0, 0)).2 ≤ 9223372036854775807 := by
  rw [List.getD_eq_getElem?_getD]
  cases hi : cs[i]? with
  | none => simp
  | some s =>
    have := h s (List.mem_of_getElem? hi)
    simp only [Option.getD_some]
    omega
theorem I64At.parts {w : World} {p : Option Addr} {n c : Nat} {l : List Int} (h : I64At w (.slice p n c) l) : ∀ i, i < l.length → ∃ b o, p = some ⟨b, o, none⟩ ∧ b < w.heap.size ∧ w.cell? ⟨b, o + i, none⟩ = some (.int .i64 (l.getD i 0)) := by
  obtain ⟨p', c', hv, _, _, hc⟩ := h.at_
  have := (Value.slice.inj hv).1
  subst this
  exact hc
theorem C2At.parts {w : World} {p : Option Addr} {n c : Nat} {l : List Cel} (h : C2At w (.slice p n c) l) : ∀ i, i < l.length → ∃ b o, p = some ⟨b, o, none⟩ ∧ b < w.heap.size ∧ w.cell? ⟨b, o + i * 2, none⟩ = some (.int .i64 (l.getD i (0, 0)).1) ∧ w.cell? ⟨b, o + i * 2 + 1, none⟩ = some (.int .i64 (l.getD i (0, 0)).2) := by
  obtain ⟨p', c', hv, _, _, hc⟩ := h.at_
  have := (Value.slice.inj hv).1
  subst this
  exact hc

set_option maxHeartbeats 8000000 in
set_option maxRecDepth 100000 in
theorem vecRuns_walk (n state : Int) (n1 : -9223372036854775808 ≤ n) (n2 : n ≤ 9223372036854775807) (s1 : -9223372036854775808 ≤ state) (s2 : state ≤ 9223372036854775807) (p : Option Addr) (mlen cap : Nat) (ml : List Int) (hm : mlen ≤ cap) (hcap : cap ≤ 9223372036854775807)
    (hml : ml.length = min mlen 60) (w : World) (hT : TabW w) (hv : I64At w (.slice p ml.length cap) ml) :
    Calls Tryz.prog 10 #[.int .i64 n, .int .i64 state, .slice p mlen cap] w fun e w' => e = .returned (.bool true) ∧ Below w.heap.size w w' := by
  have HBG : Hid (∀ W, Below w.heap.size w W → Calls Tryz.prog 18 #[] W fun e w' => e = .returned (.bool true) ∧ Below W.heap.size W w') := Lib.hid (fun W hb => begun8_any W (hT.below hb))
  clear hT
  obtain ⟨a, ha, a1, a2, N, hN, hN3⟩ := mod_place n 300 (by decide)
  obtain ⟨c, hc, c1, c2, J, hJ, hJ3⟩ := mod_place state 3 (by decide)
  have hN4 : N < 300 := by omega
  have hJ4 : J < 3 := by omega
  have htst := triS_st J
  have HTRI := Lib.hid (fun W => tri_cell W J hJ4)
  generalize triS J = st at *
  obtain ⟨p', cap', hve, _, _, hcc⟩ := hv.at_
  have HSM := Lib.hid hv.small
  obtain ⟨K, hK⟩ : ∃ K, ml.length = K := ⟨_, rfl⟩
  have HK := Lib.hid hK
  rw [hK] at hml hcc
  have hK60 : K ≤ 60 ∧ K ≤ mlen := by omega
  have HML := Lib.hid hml
  clear hml
  have hpp : p = p' := (Value.slice.inj hve).1
  subst hpp
  have HCC := Lib.hid hcc
  clear hcc hve hv hK
  go_enter Tryz.func10, Tryz.ntmps10
  go_upto_region 5 with (go_at_call 18; refine (HBG.out _ (by first | exact Below.refl _ _ | exact bel_alloc _ _ | exact bel_trans (bel_alloc _ _) (bel_alloc _ _))).mono ?_; rintro e w0 ⟨rfl, hb0⟩)
  have htri := HTRI.out w0
  go_upto_region 6 with fail
  have HB0 : Hid (Below w.heap.size w (w0.alloc (.cells #[.int .i64 0, .int .i64 1, .int .i64 3] 3))) := Lib.hid (bel_trans hb0 (bel_alloc _ _))
  clear htri hb0 HTRI
  generalize w0.alloc (.cells #[.int .i64 0, .int .i64 1, .int .i64 3] 3) = w1 at *
  have HNIL := Lib.hid (I64Own.nil w1)
  clear ha hN hc hJ
  go_wp2
  go_loopw [8, 9] (fun v i wr => ∃ j : Nat, i = .int .i64 (j : Int) ∧ j ≤ N ∧ Hid (I64Own w1.heap.size v (List.replicate j st) w1 wr)) (fun _ i _ => N - (intOf i).toNat)
  case atStart => exact ⟨0, rfl, by omega, HNIL⟩
  case round =>
    obtain ⟨j, rfl, hj, hown⟩ := hrel
    by_cases hjn : j < N
    · have HCELL := Lib.hid (one_cell wr st)
      go_upto_region 9 with (at_builtin; refine wp_i64s rfl _ _ rfl w1.heap.size u8 (List.replicate j st) [st] rfl w1 _ (hown.out.kept (bel_alloc wr _)) wr.heap.size 0 1 rfl HCELL.out (by rw [List.length_replicate]; omega) (by simp) ?_; intro v2 w9 ho9 hg9)
      have HO9 : Hid (I64Own w1.heap.size v2 (List.replicate (j + 1) st) w1 w9) := Lib.hid (by rw [List.replicate_succ']; exact ho9)
      clear ho9 hg9 HCELL hown
      go_wp2
      refine ⟨⟨j + 1, by go_num, by omega, HO9⟩, ?_⟩
      simp [intOf]; omega
    · obtain rfl : j = N := by omega
      have HOW : Hid (I64Own w1.heap.size u8 (List.replicate j st ++ (ml.take 0).map triX) w1 wr) := Lib.hid (by simpa using hown.out)
      clear hown hjn
      obtain ⟨wo, rfl⟩ : ∃ wo : World, wo = wr := ⟨_, rfl⟩
      go_wp2
      go_loopw [8, 10] (fun v i wi => ∃ q : Nat, i = .int .i64 (q : Int) ∧ q ≤ K ∧ Hid (I64Own w1.heap.size v (List.replicate j st ++ (ml.take q).map triX) w1 wi)) (fun _ i _ => K - (intOf i).toNat)
      case atStart => exact ⟨0, rfl, by omega, HOW⟩
      case round =>
        obtain ⟨q, rfl, hq, hown⟩ := hrel
        by_cases hqk : q < K
        · have hd1 : decide ((q : Int) < (mlen : Int)) = true := decide_eq_true (by omega)
          have hd2 : decide ((q : Int) < 60) = true := decide_eq_true (by omega)
          obtain ⟨b, o, rfl, hlt, c0⟩ := HCC.out q hqk
          have hbw : Below w.heap.size w wr := bel_trans HB0.out hown.out.2.1
          rw [← hbw.cell (p := ⟨b, o + q, none⟩) hlt] at c0
          have hlt2 : b < wr.heap.size := Nat.lt_of_lt_of_le hlt hbw.size
          have hxs := HSM.out q
          have hts := take_snocI ml q (by rw [HK.out]; exact hqk)
          have HNX : Hid (List.replicate j st ++ (ml.take (q + 1)).map triX = (List.replicate j st ++ (ml.take q).map triX) ++ [triX (ml.getD q 0)]) := Lib.hid (by rw [hts, List.map_append, List.append_assoc]; rfl)
          have HLL : Hid ((List.replicate j st ++ (ml.take q).map triX).length ≤ 1073741824) := Lib.hid (by rw [List.length_append, List.length_replicate, List.length_map, List.length_take]; omega)
          generalize ml.getD q 0 = x at *
          obtain ⟨e, he, e1, e2, J2, hJ2, hJ23⟩ := mod_place x 3 (by decide)
          have htx : triX x = triS J2 := by unfold triX; rw [he, hJ2]; rfl
          rw [htx] at HNX
          have htc := tri_cell wr J2 (by omega)
          have HCELL : Hid (∀ i, i < ([triS J2] : List Int).length → ((wr.alloc (.cells #[.int .i64 0, .int .i64 1, .int .i64 3] 3)).alloc (.cells #[.int .i64 (triS J2)] 3)).cell? ⟨wr.heap.size + 1, 0 + i, none⟩ = some (.int .i64 (([triS J2] : List Int).getD i 0))) := Lib.hid (by
            simp)
          generalize triS J2 = s2 at *
          clear hts hlt hbw htx
          go_upto_region 13 with (at_builtin; refine wp_i64s rfl _ _ rfl w1.heap.size u8 (List.replicate j st ++ (ml.take q).map triX) [s2] rfl w1 _ (hown.out.kept (bel_trans (bel_alloc wr _) (bel_alloc _ _))) (wr.heap.size + 1) 0 1 rfl HCELL.out HLL.out (by simp) ?_; intro v2 w9 ho9 hg9)
          have HO9 : Hid (I64Own w1.heap.size v2 (List.replicate j st ++ (ml.take (q + 1)).map triX) w1 w9) := Lib.hid (by rw [HNX.out]; exact ho9)
          clear ho9 hg9 HCELL hown htc c0 he hJ2
          go_wp2
          refine ⟨⟨q + 1, by go_num, by omega, HO9⟩, ?_⟩
          simp [intOf]; omega
        · obtain rfl : q = K := by omega
          have htk : ml.take q = ml := List.take_of_length_le (by rw [HK.out]; exact Nat.le_refl _)
          rw [htk] at hown
          clear htk hqk
          obtain ⟨L, hL⟩ : ∃ L, List.replicate j st ++ ml.map triX = L := ⟨_, rfl⟩
          have hLl : L.length ≤ 400 := by rw [← hL, List.length_append, List.length_replicate, List.length_map, HK.out]; omega
          have hLa : L.all stB = true := by
            rw [← hL, List.all_append, Bool.and_eq_true]
            refine ⟨?_, ?_⟩
            · rw [List.all_eq_true]; intro y hy; rw [List.eq_of_mem_replicate hy]; exact htst
            · rw [List.all_eq_true]; intro y hy
              obtain ⟨z, _, rfl⟩ := List.mem_map.1 hy
              exact triS_st _
          rw [hL] at hown
          have HLA := Lib.hid hLa
          have HLL := Lib.hid hLl
          have HOF := Lib.hid (of_facts L hLa (by omega))
          clear hL hLl hLa htst
          have hd : (¬ q < mlen ∧ ¬ q < 60) ∨ (¬ q < mlen ∧ q < 60) ∨ (q < mlen ∧ ¬ q < 60) := by
            have hml := HML.out
            omega
          obtain ⟨M, hM⟩ : ∃ M, L.length = M := ⟨_, rfl⟩
          obtain ⟨pl, cl, rfl⟩ := hown.out.lenV
          have HAT : Hid (I64At wr (.slice pl M cl) L) := Lib.hid (hM ▸ hown.out.at (by have := HLL.out; omega) (st_small L HLA.out))
          have HBR : Hid (Below w.heap.size w wr) := Lib.hid (bel_trans HB0.out hown.out.2.1)
          have hM400 : M ≤ 400 := by have := HLL.out; omega
          have HM := Lib.hid hM
          rw [hM] at hown ⊢
          clear hown hM HLL
          rcases hd with ⟨hd1, hd2⟩ | ⟨hd1, hd2⟩ | ⟨hd1, hd2⟩
          all_goals
            clear hK60
            go_upto_region 16 with (go_at_call 25; (with_reducible refine (vecOf_any _ L _ HAT.out).mono ?_); rintro e wc ⟨vc, rfl, hco⟩)
            have HB1 : Hid (Below w.heap.size w wc) := Lib.hid (bel_trans HBR.out hco.2.1)
            have HLA2 : Hid (I64At wc (.slice pl M cl) L) := Lib.hid (HAT.out.below hco.2.1)
            obtain ⟨cs, hcs⟩ : ∃ cs, ofR L = cs := ⟨_, rfl⟩
            rw [hcs] at hco HOF
            obtain ⟨hmay, hspr, hsep, hrok, hcl⟩ := HOF.out
            have hca := hco.at (by have := HM.out; omega) (runs_small cs hrok)
            have HCA := Lib.hid hca
            obtain ⟨pc, cc, rfl, hcc1, hcc2, hcx⟩ := hca.at_
            have HMAY := Lib.hid hmay
            have HSPR := Lib.hid hspr
            have HSEP := Lib.hid hsep
            have HCX := Lib.hid hcx
            obtain ⟨C, hC⟩ : ∃ C, cs.length = C := ⟨_, rfl⟩
            have HC := Lib.hid hC
            rw [hC] at HCA HCX hcl hcc1 ⊢
            have hC400 : C ≤ 400 := by have := HM.out; omega
            clear hcx hco hca hmay hspr hsep hrok hC hcs HOF HAT HBR hcl
            go_upto_region 17 with (go_at_call 29; (with_reducible refine (vecSpread_any _ cs _ HCA.out).mono ?_); rintro e wb ⟨vb, rfl, hbo⟩)
            rw [HSPR.out] at hbo
            have HB2 : Hid (Below w.heap.size w wb) := Lib.hid (bel_trans HB1.out hbo.2.1)
            have HLA3 := Lib.hid (HLA2.out.below hbo.2.1).parts
            have HCA3 : Hid (C2At wb (.slice pc C cc) cs) := Lib.hid (HCA.out.below hbo.2.1)
            obtain ⟨pb, cb, rfl⟩ := hbo.lenV
            have HBA := Lib.hid (hbo.at (by have := HM.out; omega) (st_small L HLA.out)).parts
            rw [HM.out] at HBA HLA3 ⊢
            clear hbo HLA2 HB1 HCA
            obtain ⟨wo, rfl⟩ : ∃ wo : World, wo = wb := ⟨_, rfl⟩
            go_wp2
            go_loopw [72] (fun i wx => ∃ k : Nat, i = .int .i64 (k : Int) ∧ k ≤ M ∧ Hid (Below wo.heap.size wo wx)) (fun i _ => M - (intOf i).toNat)
            case atStart => exact ⟨0, rfl, by omega, Lib.hid (Below.refl _ _)⟩
            case round =>
              obtain ⟨k, rfl, hk, hbx⟩ := hrel
              obtain ⟨wx, rfl⟩ : ∃ wx : World, wx = wr := ⟨_, rfl⟩
              by_cases hkm : k < M
              · obtain ⟨b1, o1, e1, hlt1, c1⟩ := HLA3.out k (by have := HM.out; omega)
                obtain ⟨b2, o2, e2, hlt2, c2⟩ := HBA.out k (by have := HM.out; omega)
                rw [← hbx.out.cell (p := ⟨b1, o1 + k, none⟩) hlt1] at c1
                rw [← hbx.out.cell (p := ⟨b2, o2 + k, none⟩) hlt2] at c2
                subst e1
                subst e2
                generalize L.getD k 0 = x at *
                clear hlt1 hlt2
                go_upto_region 22 with fail
                go_quiet (fail)
                have HBQ : Hid (Below wo.heap.size wo (wx.drewN nq)) := Lib.hid (bel_trans hbx.out (bel_drewN _ _))
                clear c1 c2 hbx
                generalize wx.drewN nq = wz at *
                go_wp2
                refine ⟨⟨k + 1, by go_num, by omega, HBQ⟩, ?_⟩
                simp [intOf]; omega
              · obtain rfl : k = M := by omega
                obtain ⟨wq, rfl⟩ : ∃ wq : World, wq = wx := ⟨_, rfl⟩
                have HCA4 : Hid (C2At wq (.slice pc C cc) cs) := Lib.hid (HCA3.out.below hbx.out)
                have HB3 : Hid (Below w.heap.size w wq) := Lib.hid (bel_trans HB2.out hbx.out)
                clear hbx HCA3 HB2 HBA HLA3
                go_wp2
                go_loopw [14] (fun i wx => ∃ q : Nat, i = .int .i64 ((q + 1 : Nat) : Int) ∧ q ≤ C ∧ Hid (Below wq.heap.size wq wx)) (fun i _ => C + 1 - (intOf i).toNat)
                case atStart => exact ⟨0, rfl, by omega, Lib.hid (Below.refl _ _)⟩
                case round =>
                  obtain ⟨q, rfl, hq, hbx⟩ := hrel
                  obtain ⟨wx, rfl⟩ : ∃ wx : World, wx = wr := ⟨_, rfl⟩
                  by_cases hqc : q + 1 < C
                  · have hpt := HCA4.out.parts
                    obtain ⟨b1, o1, e1, hlt1, c1, d1⟩ := hpt q (by have := HC.out; omega)
                    obtain ⟨b2, o2, e2, hlt2, c2, d2⟩ := hpt (q + 1) (by have := HC.out; omega)
                    subst e1
                    cases e2
                    rw [← hbx.out.cell (p := ⟨b1, o1 + q * 2, none⟩) hlt1] at c1
                    rw [← hbx.out.cell (p := ⟨b1, o1 + q * 2 + 1, none⟩) hlt1] at d1
                    rw [← hbx.out.cell (p := ⟨b1, o1 + (q + 1) * 2, none⟩) hlt1] at c2
                    have hsp := HSEP.out q (by have := HC.out; omega)
                    generalize cs.getD q (0, 0) = x1 at *
                    generalize cs.getD (q + 1) (0, 0) = x2 at *
                    obtain ⟨s1', r1'⟩ := x1
                    obtain ⟨s2', r2'⟩ := x2
                    simp only at c1 d1 c2 hsp
                    clear hlt1 hlt2 d2 hpt
                    by_cases hss : s1' = s2'
                    · subst hss
                      have hr : ¬ r1' < 64 := fun h => hsp ⟨rfl, h⟩
                      have hd9 := decide_eq_false hr
                      clear hsp
                      go_upto_region 28 with fail
                      go_quiet (fail)
                      have HBQ : Hid (Below wq.heap.size wq (wx.drewN nq)) := Lib.hid (bel_trans hbx.out (bel_drewN _ _))
                      clear c1 c2 d1 hbx
                      generalize wx.drewN nq = wz at *
                      go_wp2
                      refine ⟨⟨q + 1, by go_num, by omega, HBQ⟩, ?_⟩
                      simp [intOf]; omega
                    · have hd9 : (s1' == s2') = false := by rw [beq_eq_false_iff_ne]; exact hss
                      clear hsp
                      go_upto_region 28 with fail
                      go_quiet (fail)
                      have HBQ : Hid (Below wq.heap.size wq (wx.drewN nq)) := Lib.hid (bel_trans hbx.out (bel_drewN _ _))
                      clear c1 c2 d1 hbx
                      generalize wx.drewN nq = wz at *
                      go_wp2
                      refine ⟨⟨q + 1, by go_num, by omega, HBQ⟩, ?_⟩
                      simp [intOf]; omega
                  · have HM5 := Lib.hid (vecMay_any _ cs _ (HCA4.out.below hbx.out))
                    rw [HMAY.out] at HM5
                    have HB5 : Hid (Below w.heap.size w wx) := Lib.hid (bel_trans HB3.out hbx.out)
                    clear hbx HCA4
                    go_wp2_with (go_at_call 23; (with_reducible refine HM5.out.mono ?_); rintro e W9 ⟨rfl, hb9⟩)
                    go_ret
                    exact ⟨rfl, bel_trans HB5.out hb9⟩
end Go.Proofs.YtnffdacajdjeoaaGreatDoor
