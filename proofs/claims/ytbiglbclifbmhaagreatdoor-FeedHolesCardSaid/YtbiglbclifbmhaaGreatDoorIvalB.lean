/-
  Package ival and the document's sums: means and rates.
-/
import Derived.Test.YtbiglbclifbmhaaGreatDoorIvalA
namespace Go.Proofs.YtbiglbclifbmhaaGreatDoor
open Go.ChangeShapes Go.WideShapes Go.ChangeAt Go.RowKit
set_option linter.unusedVariables false
set_option linter.unusedSimpArgs false

theorem weighLen_lt (o : Nat) (l : List Nat) : M.weighLen o l < 18446744073709551616 := by rw [M.weighLen_eq]; omega
theorem rate_any (o : Nat) (v : Value) (l : List Nat) (ho : o < 18446744073709551616) (w : World) (hT : TabW w) (hv : U64At w v l) :
    Calls Tryz.prog 37 #[.int .u64 o, v] w fun e w' => e = .returned (.int .u64 (M.lossRate o l)) ∧ ∃ n, w' = w.drewN n := by
  have HW := Lib.hid (weigh_any o v l ho w hT hv)
  obtain ⟨p, cap, rfl, _⟩ := hv.at_
  clear hT hv
  by_cases hl : l = []
  · have hr : M.lossRate o l = 0 := if_pos hl
    rw [if_pos hl, if_pos hl] at HW
    rw [hr]
    clear hr hl
    generalize l.length = N at *
    go_enter Tryz.func37, Tryz.ntmps37
    go_wp2_with (go_at_call 72; (with_reducible refine HW.out.mono ?_); rintro e w1 ⟨rfl, n, rfl⟩)
    go_ret
    exact ⟨rfl, n, rfl⟩
  · have hr : M.lossRate o l = min (M.mulDivT (M.weighTot l) 4294967296 (M.weighLen o l)) 4294967296 := if_neg hl
    rw [if_neg hl, if_neg hl] at HW
    have hT := M.wTot_pos l hl
    have hL := weighLen_lt o l
    rw [hr]
    generalize M.weighLen o l = L at *
    generalize M.weighTot l = T at *
    have HD : Hid (∀ W, Calls Tryz.prog 69 #[.int .u64 T, .int .u64 4294967296, .int .u64 L] W fun e w' => e = .returned (.int .u64 (M.mulDivT T 4294967296 L)) ∧ ∃ n, w' = W.drewN n) := Lib.hid (fun W => fixMulDiv_any T 4294967296 L (by omega) (by decide) hL W)
    have hz : ((T : Int) == 0) = false := by rw [beq_eq_false_iff_ne]; omega
    generalize M.mulDivT T 4294967296 L = Q at *
    clear hr hl
    generalize l.length = N at *
    go_enter Tryz.func37, Tryz.ntmps37
    go_wp2_with (first
      | (go_at_call 72; (with_reducible refine HW.out.mono ?_); rintro e w1 ⟨rfl, n, rfl⟩)
      | (go_at_call 69; (with_reducible refine (HD.out _).mono ?_); rintro e w2 ⟨rfl, m, rfl⟩))
    go_ret
    exact ⟨M.ret_int (by omega), n + m, rfl⟩

/-- The document's weights, laid by the call itself. -/
def wCells : Array Value := #[.int .u64 5, .int .u64 5, .int .u64 5, .int .u64 5, .int .u64 4, .int .u64 3, .int .u64 2, .int .u64 1]
theorem store_w8 {ops : Array Oper} {rest : List Oper} {o : Oper} {a : Act} {w : World} {Q : Exit → Act → World → Prop} (hgd : o.guard = none) (x y : Operand) (ho : o.op = .store 201 x y)
    (C : Nat) (old : Array Value) (hx : a.eval x = .pointer (some ⟨C, 0, none⟩)) (hy : a.eval y = .agg wCells) (hb : w.heap[C]? = some (.cells old 201 (0, 0))) (hold : old.size = 8)
    (hh : ∀ w', (∀ i, i < 8 → w'.cell? ⟨C, i, none⟩ = some (.int .u64 (M.wt i))) → w.grownBy w' (some C) → wpList Tryz.prog ops Q rest (a.put o.dst undef) w') : wpList Tryz.prog ops Q (o :: rest) a w := by
  refine wpList_store_row hgd 201 x y ho C wCells hx hy 201 old hb (by kernel_rfl) (by rw [hold]; rfl) (by simp [wCells, Value.oneCell']) (hh _ (fun i hi => ?_) ?_)
  · rw [cell_of_row _ C i _ _ _ (setRow_heap w C _ _ _ _ hb)]
    have : i = 0 ∨ i = 1 ∨ i = 2 ∨ i = 3 ∨ i = 4 ∨ i = 5 ∨ i = 6 ∨ i = 7 := by omega
    rcases this with rfl | rfl | rfl | rfl | rfl | rfl | rfl | rfl <;> rfl
  · exact ⟨rfl, rfl, rfl, by simp, fun k _ hk => by
      have hne : k ≠ C := fun e => hk (by rw [e])
      simp only [World.setRow, Array.getElem?_modify]
      rw [if_neg (by omega)]⟩
theorem wTot_next : ∀ j : Fin 8, M.wTot j.val + M.wt j.val = M.wTot (j.val + 1) ∧ M.wTot j.val ≤ 30 := by decide
end Go.Proofs.YtbiglbclifbmhaaGreatDoor
