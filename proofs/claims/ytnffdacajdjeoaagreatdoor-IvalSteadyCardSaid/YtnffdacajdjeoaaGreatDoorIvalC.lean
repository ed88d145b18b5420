/-
  The document's means and rates of intervals; all of them over a world that grows.
-/
import Derived.Test.YtnffdacajdjeoaaGreatDoorIvalB
namespace Go.Proofs.YtnffdacajdjeoaaGreatDoor
open Go.ChangeShapes Go.WideShapes Go.ChangeAt Go.RowKit
set_option linter.unusedVariables false
set_option linter.unusedSimpArgs false

set_option maxRecDepth 100000 in
theorem refWeigh_nil (o : Nat) (a : Option Addr) (cap : Nat) (ho : o < 18446744073709551616) (w : World) :
    Calls Tryz.prog 92 #[.int .u64 o, .slice a 0 cap] w fun e w' => (∃ x : Nat, e = .returned (.tuple #[.int .u64 0, .int .u64 x])) ∧ Below w.heap.size w w' := by
  have HM : Hid (∀ W, Calls Tryz.prog 136 #[.int .u64 o, .int .u64 5] W fun e w' => e = .returned (.int .u64 (M.mulT o 5)) ∧ W = w') := Lib.hid (fun W => refMul_any o 5 ho (by decide) W)
  generalize M.mulT o 5 = m at *
  go_enter Tryz.func92, Tryz.ntmps92
  go_upto_region 3 with (refine store_w8 rfl _ _ rfl _ _ rfl rfl (heap_alloc_new w _) rfl ?_; intro W1 hc1 hg1)
  have hb1 : Below w.heap.size w W1 := (bel_alloc w _).grown hg1 (by simp) (fun k hk => by cases hk; exact Nat.le_refl _)
  obtain ⟨C, hC⟩ : ∃ C, C = w.heap.size := ⟨_, rfl⟩
  rw [← hC] at hc1 ⊢
  have HB1 := Lib.hid hb1
  have c0 := hc1 0 (by decide)
  rw [show M.wt 0 = 5 from rfl] at c0
  clear hb1 hg1 hc1 hC
  go_upto_block 0 with (go_at_call 136; (with_reducible refine (HM.out _).mono ?_); rintro e w2 ⟨rfl, rfl⟩)
  clear c0 HM
  go_wp2
  refine wp_loop_rounds 1 ?_
  rw [rounds_succ]
  go_wp2
  go_ret2
  exact ⟨⟨_, rfl⟩, HB1.out⟩
theorem refMean_any (o : Nat) (v : Value) (l : List Nat) (ho : o < 18446744073709551616) (w : World) (hv : U64At w v l) :
    Calls Tryz.prog 36 #[.int .u64 o, v] w fun e w' => e = .returned (.int .u64 (M.mean o l)) ∧ Below w.heap.size w w' := by
  by_cases hl : l = []
  · obtain ⟨p, cap, rfl, _⟩ := hv.at_
    subst hl
    have HW := Lib.hid (refWeigh_nil o p cap ho w)
    have hr : M.mean o [] = 0 := if_pos rfl
    rw [hr]
    clear hr hv
    show Calls Tryz.prog _ #[.int .u64 o, .slice p 0 cap] w _
    go_enter Tryz.func36, Tryz.ntmps36
    go_wp2_with (go_at_call 92; (with_reducible refine HW.out.mono ?_); rintro e w1 ⟨⟨x, rfl⟩, hb1⟩)
    go_ret
    exact ⟨rfl, hb1⟩
  · have HW := Lib.hid (refWeigh_any o v l ho w hv hl)
    obtain ⟨p, cap, rfl, _⟩ := hv.at_
    have hr : M.mean o l = M.weighLen o l / M.weighTot l := if_neg hl
    have hT := M.wTot_pos l hl
    have hL := weighLen_lt o l
    rw [hr]
    generalize M.weighLen o l = L at *
    generalize M.weighTot l = T at *
    have hz : ((T : Int) == 0) = false := by rw [beq_eq_false_iff_ne]; omega
    clear hr hl hv
    generalize l.length = N at *
    go_enter Tryz.func36, Tryz.ntmps36
    go_wp2_with (go_at_call 92; (with_reducible refine HW.out.mono ?_); rintro e w1 ⟨rfl, hb1⟩)
    go_ret
    have hle := Nat.div_le_self L T
    have hqe : (L : Int) / (T : Int) = ((L / T : Nat) : Int) := by simp
    obtain ⟨q, hq⟩ : ∃ q, L / T = q := ⟨_, rfl⟩
    rw [hq] at hle hqe ⊢
    exact ⟨M.ret_int (by
      first
        | (rw [hqe]; exact IntWalk.u64_in _ (by omega))
        | rw [hqe]), hb1⟩
theorem refRate_any (o : Nat) (v : Value) (l : List Nat) (ho : o < 18446744073709551616) (w : World) (hv : U64At w v l) :
    Calls Tryz.prog 37 #[.int .u64 o, v] w fun e w' => e = .returned (.int .u64 (M.lossRate o l)) ∧ Below w.heap.size w w' := by
  by_cases hl : l = []
  · obtain ⟨p, cap, rfl, _⟩ := hv.at_
    subst hl
    have HW := Lib.hid (refWeigh_nil o p cap ho w)
    have hr : M.lossRate o [] = 0 := if_pos rfl
    rw [hr]
    clear hr hv
    show Calls Tryz.prog _ #[.int .u64 o, .slice p 0 cap] w _
    go_enter Tryz.func37, Tryz.ntmps37
    go_wp2_with (go_at_call 92; (with_reducible refine HW.out.mono ?_); rintro e w1 ⟨⟨x, rfl⟩, hb1⟩)
    go_ret
    exact ⟨rfl, hb1⟩
  · have HW := Lib.hid (refWeigh_any o v l ho w hv hl)
    obtain ⟨p, cap, rfl, _⟩ := hv.at_
    have hr : M.lossRate o l = min (M.mulDivT (M.weighTot l) 4294967296 (M.weighLen o l)) 4294967296 := if_neg hl
    have hT := M.wTot_pos l hl
    have hL := weighLen_lt o l
    rw [hr]
    generalize M.weighLen o l = L at *
    generalize M.weighTot l = T at *
    have HD : Hid (∀ W, Calls Tryz.prog 75 #[.int .u64 T, .int .u64 4294967296, .int .u64 L] W fun e w' => e = .returned (.int .u64 (M.mulDivT T 4294967296 L)) ∧ W = w') := Lib.hid (fun W => refMulDiv_any T 4294967296 L (by omega) (by decide) hL W)
    have hz : ((T : Int) == 0) = false := by rw [beq_eq_false_iff_ne]; omega
    generalize M.mulDivT T 4294967296 L = Q at *
    clear hr hl hv
    generalize l.length = N at *
    go_enter Tryz.func37, Tryz.ntmps37
    go_wp2_with (first
      | (go_at_call 92; (with_reducible refine HW.out.mono ?_); rintro e w1 ⟨rfl, hb1⟩)
      | (go_at_call 75; (with_reducible refine (HD.out _).mono ?_); rintro e w2 ⟨rfl, rfl⟩))
    go_ret
    exact ⟨M.ret_int (by omega), hb1⟩
end Go.Proofs.YtnffdacajdjeoaaGreatDoor
