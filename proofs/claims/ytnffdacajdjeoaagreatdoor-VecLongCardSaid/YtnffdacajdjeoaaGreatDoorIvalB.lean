/-
  Package ival and the document's sums: means and rates.
-/
import Derived.Test.YtnffdacajdjeoaaGreatDoorIvalA
namespace Go.Proofs.YtnffdacajdjeoaaGreatDoor
open Go.ChangeShapes Go.WideShapes Go.ChangeAt Go.RowKit
set_option linter.unusedVariables false
set_option linter.unusedSimpArgs false

theorem weighLen_lt (o : Nat) (l : List Nat) : M.weighLen o l < 18446744073709551616 := by rw [M.weighLen_eq]; omega
theorem mean_any (o : Nat) (v : Value) (l : List Nat) (ho : o < 18446744073709551616) (w : World) (hT : TabW w) (hv : U64At w v l) :
    Calls Tryz.prog 35 #[.int .u64 o, v] w fun e w' => e = .returned (.int .u64 (M.mean o l)) ∧ ∃ n, w' = w.drewN n := by
  have HW := Lib.hid (weigh_any o v l ho w hT hv)
  obtain ⟨p, cap, rfl, _⟩ := hv.at_
  clear hT hv
  by_cases hl : l = []
  · have hr : M.mean o l = 0 := if_pos hl
    rw [if_pos hl, if_pos hl] at HW
    rw [hr]
    clear hr hl
    generalize l.length = N at *
    go_enter Tryz.func35, Tryz.ntmps35
    go_wp2_with (go_at_call 90; (with_reducible refine HW.out.mono ?_); rintro e w1 ⟨rfl, n, rfl⟩)
    go_ret
    exact ⟨rfl, n, rfl⟩
  · have hr : M.mean o l = M.weighLen o l / M.weighTot l := if_neg hl
    rw [if_neg hl, if_neg hl] at HW
    have hT := M.wTot_pos l hl
    have hL := weighLen_lt o l
    rw [hr]
    generalize M.weighLen o l = L at *
    generalize M.weighTot l = T at *
    have hz : ((T : Int) == 0) = false := by rw [beq_eq_false_iff_ne]; omega
    clear hr hl
    generalize l.length = N at *
    go_enter Tryz.func35, Tryz.ntmps35
    go_wp2_with (go_at_call 90; (with_reducible refine HW.out.mono ?_); rintro e w1 ⟨rfl, n, rfl⟩)
    go_ret
    have hle := Nat.div_le_self L T
    have hqe : (L : Int) / (T : Int) = ((L / T : Nat) : Int) := by simp
    obtain ⟨q, hq⟩ : ∃ q, L / T = q := ⟨_, rfl⟩
    rw [hq] at hle hqe ⊢
    exact ⟨M.ret_int (by
      first
        | (rw [hqe]; exact IntWalk.u64_in _ (by omega))
        | rw [hqe]), n, rfl⟩
theorem rate_any (o : Nat) (v : Value) (l : List Nat) (ho : o < 18446744073709551616) (w : World) (hT : TabW w) (hv : U64At w v l) :
    Calls Tryz.prog 33 #[.int .u64 o, v] w fun e w' => e = .returned (.int .u64 (M.lossRate o l)) ∧ ∃ n, w' = w.drewN n := by
  have HW := Lib.hid (weigh_any o v l ho w hT hv)
  obtain ⟨p, cap, rfl, _⟩ := hv.at_
  clear hT hv
  by_cases hl : l = []
  · have hr : M.lossRate o l = 0 := if_pos hl
    rw [if_pos hl, if_pos hl] at HW
    rw [hr]
    clear hr hl
    generalize l.length = N at *
    go_enter Tryz.func33, Tryz.ntmps33
    go_wp2_with (go_at_call 90; (with_reducible refine HW.out.mono ?_); rintro e w1 ⟨rfl, n, rfl⟩)
    go_ret
    exact ⟨rfl, n, rfl⟩
  · have hr : M.lossRate o l = min (M.mulDivT (M.weighTot l) 4294967296 (M.weighLen o l)) 4294967296 := if_neg hl
    rw [if_neg hl, if_neg hl] at HW
    have hT := M.wTot_pos l hl
    have hL := weighLen_lt o l
    rw [hr]
    generalize M.weighLen o l = L at *
    generalize M.weighTot l = T at *
    have HD : Hid (∀ W, Calls Tryz.prog 91 #[.int .u64 T, .int .u64 4294967296, .int .u64 L] W fun e w' => e = .returned (.int .u64 (M.mulDivT T 4294967296 L)) ∧ ∃ n, w' = W.drewN n) := Lib.hid (fun W => fixMulDiv_any T 4294967296 L (by omega) (by decide) hL W)
    have hz : ((T : Int) == 0) = false := by rw [beq_eq_false_iff_ne]; omega
    generalize M.mulDivT T 4294967296 L = Q at *
    clear hr hl
    generalize l.length = N at *
    go_enter Tryz.func33, Tryz.ntmps33
    go_wp2_with (first
      | (go_at_call 90; (with_reducible refine HW.out.mono ?_); rintro e w1 ⟨rfl, n, rfl⟩)
      | (go_at_call 91; (with_reducible refine (HD.out _).mono ?_); rintro e w2 ⟨rfl, m, rfl⟩))
    go_ret
    exact ⟨M.ret_int (by omega), n + m, rfl⟩

/-- The document's weights, laid by the call itself. -/
def wCells : Array Value := #[.int .u64 5, .int .u64 5, .int .u64 5, .int .u64 5, .int .u64 4, .int .u64 3, .int .u64 2, .int .u64 1]
theorem store_w8 {ops : Array Oper} {rest : List Oper} {o : Oper} {a : Act} {w : World} {Q : Exit → Act → World → Prop} (hgd : o.guard = none) (x y : Operand) (ho : o.op = .store 110 x y)
    (C : Nat) (old : Array Value) (hx : a.eval x = .pointer (some ⟨C, 0, none⟩)) (hy : a.eval y = .agg wCells) (hb : w.heap[C]? = some (.cells old 110 (0, 0))) (hold : old.size = 8)
    (hh : ∀ w', (∀ i, i < 8 → w'.cell? ⟨C, i, none⟩ = some (.int .u64 (M.wt i))) → w.grownBy w' (some C) → wpList Tryz.prog ops Q rest (a.put o.dst undef) w') : wpList Tryz.prog ops Q (o :: rest) a w := by
  refine wpList_store_row hgd 110 x y ho C wCells hx hy 110 old hb (by kernel_rfl) (by rw [hold]; rfl) (by simp [wCells, Value.oneCell']) (hh _ (fun i hi => ?_) ?_)
  · rw [cell_of_row _ C i _ _ _ (setRow_heap w C _ _ _ _ hb)]
    have : i = 0 ∨ i = 1 ∨ i = 2 ∨ i = 3 ∨ i = 4 ∨ i = 5 ∨ i = 6 ∨ i = 7 := by omega
    rcases this with rfl | rfl | rfl | rfl | rfl | rfl | rfl | rfl <;> rfl
  · exact ⟨rfl, rfl, rfl, by simp, fun k _ hk => by
      have hne : k ≠ C := fun e => hk (by rw [e])
      simp only [World.setRow, Array.getElem?_modify]
      rw [if_neg (by omega)]⟩
theorem wTot_next : ∀ j : Fin 8, M.wTot j.val + M.wt j.val = M.wTot (j.val + 1) ∧ M.wTot j.val ≤ 30 := by decide
set_option maxHeartbeats 4000000 in
set_option maxRecDepth 100000 in
theorem refWeigh_any (o : Nat) (v : Value) (l : List Nat) (ho : o < 18446744073709551616) (w : World) (hv : U64At w v l) (hl0 : l ≠ []) :
    Calls Tryz.prog 92 #[.int .u64 o, v] w fun e w' => e = .returned (.tuple #[.int .u64 (M.weighTot l), .int .u64 (M.weighLen o l)]) ∧ Below w.heap.size w w' := by
  obtain ⟨p, cap, rfl, hcap, hcm, _⟩ := hv.at_
  have hlen := hv.len
  have h0 : 0 < l.length := List.length_pos_iff.2 hl0
  obtain ⟨k, hk⟩ : ∃ k : Nat, min l.length 8 = k := ⟨_, rfl⟩
  have hk8 : k ≤ 8 ∧ 0 < k ∧ k ≤ l.length := by omega
  have hmin : min (l.length : Int) 8 = (k : Int) := by omega
  have hkk : (l.take 8).length = k := by rw [List.length_take]; omega
  have hte : (l.take 8) = l.take k := by
    by_cases h8 : 8 ≤ l.length
    · rw [show k = 8 by omega]
    · rw [List.take_of_length_le (by omega), List.take_of_length_le (by omega)]
  have hTot : M.weighTot l = M.wTot k := by unfold M.weighTot; rw [hkk]
  have hLen : M.weighLen o l = max (M.wFold (M.mulT o 5) (l.take (k - 1)) 1) (M.wFold 0 (l.take k) 0) := by
    unfold M.weighLen
    simp only
    rw [hkk, hte, List.take_take, show min (k - 1) k = k - 1 by omega]
  have HTOT := Lib.hid hTot
  have HLEN := Lib.hid hLen
  have HM : Hid (∀ W, Calls Tryz.prog 136 #[.int .u64 o, .int .u64 5] W fun e w' => e = .returned (.int .u64 (M.mulT o 5)) ∧ W = w') := Lib.hid (fun W => refMul_any o 5 ho (by decide) W)
  have hm5 : M.mulT o 5 < 18446744073709551616 := by rw [M.mulT_min]; omega
  have HSM := Lib.hid hv.small
  have HVV := Lib.hid hv
  obtain ⟨N, hN⟩ : ∃ N, l.length = N := ⟨_, rfl⟩
  have HN := Lib.hid hN
  rw [hN] at hmin hcap hlen hk8 ⊢
  clear hk hkk hte hTot hLen hl0 h0 hN hv
  go_enter Tryz.func92, Tryz.ntmps92
  go_upto_region 3 with (refine store_w8 rfl _ _ rfl _ _ rfl rfl (heap_alloc_new w _) rfl ?_; intro W1 hc1 hg1)
  have hb1 : Below w.heap.size w W1 := (bel_alloc w _).grown hg1 (by simp) (fun k hk => by cases hk; exact Nat.le_refl _)
  obtain ⟨C, hC⟩ : ∃ C, C = w.heap.size := ⟨_, rfl⟩
  rw [← hC] at hc1 ⊢
  have HV1 := Lib.hid (HVV.out.below hb1)
  have HC1 := Lib.hid hc1
  have HB1 := Lib.hid hb1
  have c0 := hc1 0 (by decide)
  rw [show M.wt 0 = 5 from rfl] at c0
  clear hb1 hg1 hc1 hC
  obtain ⟨m, hm⟩ : ∃ m, M.mulT o 5 = m := ⟨_, rfl⟩
  rw [hm] at HM hm5 HLEN
  clear hm
  go_upto_block 0 with (go_at_call 136; (with_reducible refine (HM.out _).mono ?_); rintro e w2 ⟨rfl, rfl⟩)
  clear c0 HM
  go_wp2
  go_loopw [8, 9, 10, 11] (fun s a b i wr => ∃ j n : Nat, j ≤ k ∧ i = .int .i64 (j : Int) ∧ s = .int .u64 (M.wTot j : Nat) ∧ a = .int .u64 (M.wFold m (l.take (min j (k - 1))) 1 : Nat) ∧ b = .int .u64 (M.wFold 0 (l.take j) 0 : Nat) ∧ Hid (wr = W1.drewN n)) (fun _ _ _ i _ => k - (intOf i).toNat)
  case atStart => exact ⟨0, 0, Nat.zero_le _, rfl, rfl, by simp [M.wFold], by simp [M.wFold], Lib.hid rfl⟩
  case round =>
    obtain ⟨j, n, hj, rfl, rfl, rfl, rfl, hwr⟩ := hrel
    by_cases hjk : j < k
    · obtain ⟨hs, hs30⟩ := wTot_next ⟨j, by omega⟩
      simp only at hs hs30
      have hw5 := wt_le j
      have hvr : U64At wr (.slice p N cap) l := by rw [hwr.out]; have := HV1.out.drewN n; rwa [HN.out] at this
      obtain ⟨p', cap', hve, _, _, hcc⟩ := hvr.at_
      obtain ⟨b, o2, hpe, hlt, hcell⟩ := hcc j (by rw [HN.out]; omega)
      have hpp : p = some ⟨b, o2, none⟩ := by injection hve with e1 _ _; rw [e1]; exact hpe
      subst hpp
      have hx := HSM.out j
      have hcj : wr.cell? ⟨C, j, none⟩ = some (.int .u64 (M.wt j)) := by rw [hwr.out]; exact HC1.out j (by omega)
      have hcj1 : Hid (j < k - 1 → wr.cell? ⟨C, j + 1, none⟩ = some (.int .u64 (M.wt (j + 1)))) := Lib.hid (fun hh => by rw [hwr.out]; exact HC1.out (j + 1) (by omega))
      have hts := take_snocN l j (by rw [HN.out]; omega)
      have HNB : Hid (M.wFold 0 (l.take (j + 1)) 0 = M.addT (M.wFold 0 (l.take j) 0) (M.mulT (l.getD j 0) (M.wt j))) := Lib.hid (by
        rw [hts, M.wFold_snoc, List.length_take, show min j l.length = j by rw [HN.out]; omega, Nat.zero_add])
      have HNA : Hid (M.wFold m (l.take (min (j + 1) (k - 1))) 1 = if j < k - 1 then M.addT (M.wFold m (l.take (min j (k - 1))) 1) (M.mulT (l.getD j 0) (M.wt (j + 1))) else M.wFold m (l.take (min j (k - 1))) 1) := Lib.hid (by
        by_cases hh : j < k - 1
        · rw [if_pos hh, show min (j + 1) (k - 1) = j + 1 by omega, show min j (k - 1) = j by omega, hts, M.wFold_snoc, List.length_take, show min j l.length = j by rw [HN.out]; omega, Nat.add_comm 1 j]
        · rw [if_neg hh, show min (j + 1) (k - 1) = k - 1 by omega, show min j (k - 1) = k - 1 by omega])
      have hfa := wFold_small (l.take (min j (k - 1))) m 1 (by omega)
      have hfb := wFold_small (l.take j) 0 0 (by omega)
      have hw6 := wt_le (j + 1)
      generalize l.getD j 0 = x at *
      generalize M.wFold 0 (l.take j) 0 = fb at *
      generalize M.wFold m (l.take (min j (k - 1))) 1 = fa at *
      generalize M.wt j = u at *
      generalize M.wt (j + 1) = u2 at *
      have HM1 := Lib.hid (fun W => refMul_any x u hx (by omega) W)
      have hm1 : M.mulT x u < 18446744073709551616 := by rw [M.mulT_min]; omega
      generalize M.mulT x u = m1 at *
      have HA1 := Lib.hid (fun W => fixAdd_any fb m1 (by omega) hm1 W)
      obtain ⟨r1, hr1⟩ : ∃ r, M.addT fb m1 = r := ⟨_, rfl⟩
      rw [hr1] at HA1 HNB
      have HM2 := Lib.hid (fun W => refMul_any x u2 hx (by omega) W)
      have hm2 : M.mulT x u2 < 18446744073709551616 := by rw [M.mulT_min]; omega
      generalize M.mulT x u2 = m2 at *
      have HA2 := Lib.hid (fun W => fixAdd_any fa m2 (by omega) hm2 W)
      obtain ⟨r2, hr2⟩ : ∃ r, M.addT fa m2 = r := ⟨_, rfl⟩
      rw [hr2] at HA2 HNA
      obtain ⟨t, ht⟩ : ∃ t, M.wTot (j + 1) = t := ⟨_, rfl⟩
      have HTT := Lib.hid ht
      rw [ht] at hs
      have hst : ((M.wTot j : Nat) : Int) + (u : Int) = (t : Int) := by omega
      generalize M.wTot j = s0 at *
      have HX : Hid (o2 = o2) := Lib.hid rfl
      clear hs hr1 hr2 ht hts hvr hve hcc hpe
      go_upto_region 8 with fail
      go_quiet ((first
        | (go_at_call 136; exact Calls.quiet_of_same ((HM1.out _).mono fun e w' hh => ⟨hh.1, hh.2.symm⟩))
        | (go_at_call 73; exact Calls.quiet_of_same ((HA1.out _).mono fun e w' hh => ⟨hh.1, hh.2.symm⟩))))
      have HWZ : Hid (wr.drewN nq = W1.drewN (n + nq)) := Lib.hid (by rw [hwr.out, World.drewN_drewN])
      have hcz : (wr.drewN nq).cell? ⟨b, o2 + j, none⟩ = some (.int .u64 x) := hcell
      have hcj2 : Hid (j < k - 1 → (wr.drewN nq).cell? ⟨C, j + 1, none⟩ = some (.int .u64 u2)) := hcj1
      clear hcell hcj hcj1 hwr
      generalize wr.drewN nq = wz at *
      obtain ⟨n2, hn2⟩ : ∃ n2, n + nq = n2 := ⟨_, rfl⟩
      rw [hn2] at HWZ
      clear hn2
      by_cases hh : j < k - 1
      · rw [if_pos hh] at HNA
        have hc1 := hcj2.out hh
        have hd : decide ((j : Int) < (k : Int) - 1) = true := decide_eq_true (by omega)
        have hjk1 : j + 1 < k := by omega
        clear hh hcj2
        go_upto_region 10 with fail
        have hw1 : IntKind.i64.wrap ((j : Int) + 1) = (j : Int) + 1 := IntWalk.i64_in _ (by omega)
        have hw2 : ((j : Int) + 1).toNat = j + 1 := by omega
        have hw3 : (0 : Int) ≤ (j : Int) + 1 := by omega
        have hw4 : (j : Int) + 1 < 8 := by omega
        clear hd
        go_quiet ((first
          | (go_at_call 136; exact Calls.quiet_of_same ((HM2.out _).mono fun e w' hh => ⟨hh.1, hh.2.symm⟩))
          | (go_at_call 73; exact Calls.quiet_of_same ((HA2.out _).mono fun e w' hh => ⟨hh.1, hh.2.symm⟩))))
        have HWY : ∀ q, Hid (wz.drewN q = W1.drewN (n2 + q)) := fun q => Lib.hid (by rw [HWZ.out, World.drewN_drewN])
        have HWX := Lib.hid HWY
        clear HWY hc1 hcz
        go_wp2
        refine ⟨⟨j + 1, _, by omega, by go_num, by rw [HTT.out], by rw [HNA.out], by rw [HNB.out], HWX.out _⟩, ?_⟩
        simp [intOf]; omega
      · rw [if_neg hh] at HNA
        have hd : decide ((j : Int) < (k : Int) - 1) = false := decide_eq_false (by omega)
        clear hh hcj2 hcz
        go_wp2
        refine ⟨⟨j + 1, n2, by omega, by go_num, by rw [HTT.out], by rw [HNA.out], by rw [HNB.out], HWZ⟩, ?_⟩
        simp [intOf]; omega
    · obtain rfl : j = k := by omega
      rw [show min j (j - 1) = j - 1 by omega]
      generalize M.wFold m (l.take (j - 1)) 1 = fa at *
      generalize M.wFold 0 (l.take j) 0 = fb at *
      obtain ⟨T, hT⟩ : ∃ T, M.wTot j = T := ⟨_, rfl⟩
      rw [hT] at HTOT ⊢
      clear hT
      go_wp2
      go_ret2
      exact ⟨M.ret_ints (by rw [HTOT.out]) (by rw [HLEN.out]; omega), by rw [hwr.out]; exact bel_trans HB1.out (bel_drewN _ _)⟩
end Go.Proofs.YtnffdacajdjeoaaGreatDoor
