/-
  What head.Get answers.
-/
import Derived.Test.YtdlpapchjjbplaaGreatDoorHeadJ
namespace Go.Proofs.YtdlpapchjjbplaaGreatDoor
open Go.ChangeShapes Go.WideShapes Go.ChangeAt Go.RowKit
set_option linter.unusedVariables false

def Hd.zero : Hd := ⟨0, 0, 0, 0, 0, 0, 0, false, 0, 0, 0, 0, 0, 0, 0⟩

theorem cellsA_one (h : Hd) : h.cellsA.all (·.oneCell') = true := by simp [Hd.cellsA, Value.oneCell']
theorem infoHd : (Tryz.prog.info? 39).map (·.size) = some 15 := by kernel_rfl

theorem results_pair {fn : Func} {p q : Tmp} {ty : TypeId} (h : fn.results = #[.cell p ty, .tmp q]) (tmps : Array Value) (w : World) (g : Nat) (cs : Array Value)
    (hp : tmps.getD p undef = .pointer (some ⟨g, 0, none⟩)) (hl : (loadVar ty ⟨g, 0, none⟩).run Tryz.prog w = .ok (.agg cs) w) :
    (results fn tmps).run Tryz.prog w = .ok (.tuple #[.agg cs, tmps.getD q undef]) w := by
  have hp' : tmps[p]?.getD undef = .pointer (some ⟨g, 0, none⟩) := by simpa using hp
  simp [results, h, hp', asAddr, hl]
theorem load_hd {h : Hd} {C : Nat} {w : World} (a : HdBlk h C w) : (loadVar 39 ⟨C, 0, none⟩).run Tryz.prog w = .ok h.val w :=
  run_loadVar_row (P := Tryz.prog) w C 39 39 h.cellsA (0, 0) _ a Tryz.underlying39 rfl infoHd

theorem setRow_blk {h h2 : Hd} {C : Nat} {w : World} (a : HdBlk h C w) : HdBlk h2 C (w.setRow C h2.cellsA) := setRow_heap w C _ _ _ _ a
theorem grown_setRow (w : World) (C : Nat) (cs : Array Value) : w.grownBy (w.setRow C cs) (some C) :=
  ⟨rfl, rfl, rfl, by simp, fun k _ hk => by
    have hne : k ≠ C := fun e => hk (by rw [e])
    simp only [World.setRow, Array.getElem?_modify]
    rw [if_neg (by omega)]⟩

set_option maxHeartbeats 1000000 in
theorem get_no (l : List UInt8) (hl : l.length ≤ 9223372036854775807) (w : World) (hf : faultN l ≠ 0) :
    Calls Tryz.prog 29 #[.string (str l)] w fun e w' => e = .returned (.tuple #[Hd.zero.val, .int .i64 (faultN l)]) ∧ Below w.heap.size w w' := by
  have HF := Lib.hid (fun w => fault_any l hl w)
  have hfb : (((faultN l : Nat) : Int) != 0) = true := by rw [bne_iff_ne]; omega
  generalize faultN l = f at *
  generalize str l = s at *
  go_enter Tryz.func29, Tryz.ntmps29
  go_upto_region 3 with (go_at_call 61; refine (HF.out _).mono ?_; rintro e w1 ⟨rfl, n, rfl⟩)
  iterate 7 go_step
  refine wpList_store_row rfl 39 _ _ rfl w.heap.size Hd.zero.cellsA rfl rfl 39 Hd.zero.cellsA (heap_alloc_new w _) infoHd rfl (cellsA_one _) ?_
  go_wp2
  have ha : HdBlk Hd.zero w.heap.size ((w.alloc Hd.zero.box).drewN n) := heap_alloc_new w _
  have hb : HdBlk Hd.zero w.heap.size (((w.alloc Hd.zero.box).drewN n).setRow w.heap.size Hd.zero.cellsA) := setRow_blk ha
  refine bodyPost_ret (results_pair Tryz.results29 _ _ w.heap.size Hd.zero.cellsA rfl (load_hd hb)) rfl ⟨rfl, ?_⟩
  exact (bel_trans (bel_alloc w Hd.zero.box) (bel_drewN _ n)).trans ⟨rfl, rfl, rfl, by simp, fun k hk => (grown_setRow _ _ _).block k (by show k < (w.alloc Hd.zero.box).heap.size; simp; omega) (by simp; omega)⟩
end Go.Proofs.YtdlpapchjjbplaaGreatDoor
