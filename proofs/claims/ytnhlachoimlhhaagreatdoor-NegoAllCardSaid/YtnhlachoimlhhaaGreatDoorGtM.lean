/-
  Package got: New, the first number.
  Package got: two that are lost; slices.Insert of ints.
  Package got: a number further on.
-/
import Derived.Test.YtnhlachoimlhhaaGreatDoorBlk
import Derived.Test.YtnhlachoimlhhaaGreatDoorSeqA
import Derived.Test.YtnhlachoimlhhaaGreatDoorVecW
import Derived.Test.YtnhlachoimlhhaaGreatDoorShelf
import Derived.Shelf.Spec.SlicesInsertGrow
import Derived.WalkKit
import Derived.ProofKit
import Derived.LoopTactic
import Derived.Outline
import Derived.RegionTactic
import Derived.BigRegion
import Derived.Deep.RegionWith
import Derived.Deep.RegionHeld3
import Derived.BigQuiet
import Derived.Deep.QuietTactic
import Derived.Deep.Cut
import Derived.Deep.DeepCutAuto
import Derived.Laws.NewBlocks
namespace Go.Proofs.YtnhlachoimlhhaaGreatDoor
open Go.ChangeShapes Go.WideShapes Go.ChangeAt Go.RowKit
set_option linter.unusedVariables false
set_option linter.unusedSimpArgs false

def gotCells (n : Nat) (v : Value) : Array Value := #[.int .u64 n, v, .int .u64 0, .bool false]
/-- What was got: the newest n, the states l. -/
structure GotAt (n : Nat) (l : List Int) (C g cap : Nat) (w : World) : Prop where
  blk : BlkIs (gotCells n (.slice (some ⟨g, 0, none⟩) l.length cap)) 199 C w
  row : ∀ i v, l[i]? = some v → w.cell? ⟨g, i, none⟩ = some (.int .i64 v)
  free : ∀ i, w.frozen? ⟨g, i, none⟩ = false
  lt : g < w.heap.size
  ne : g ≠ C
  cap1 : l.length ≤ cap
  cap2 : cap ≤ 9223372036854775807
theorem gotNew_any (w : World) : Calls Tryz.prog 129 #[] w fun e w' => ∃ C, e = .returned (.pointer (some ⟨C, 0, none⟩)) ∧ BlkIs (gotCells 0 (.slice none 0 0)) 199 C w' ∧ w.heap.size ≤ C ∧ Below w.heap.size w w' := by
  go_enter Tryz.func129, Tryz.ntmps129
  go_wp2
  go_ret
  exact ⟨_, rfl, BlkIs.new _ _ _, Nat.le_refl _, bel_alloc _ _⟩
theorem gotForgotten_no (n : Nat) (v : Value) (s : Nat) (C : Nat) (w : World) (h : BlkIs (gotCells n v) 199 C w) :
    Calls Tryz.prog 159 #[.pointer (some ⟨C, 0, none⟩), .int .u64 s] w fun e w' => e = .returned (.bool false) ∧ w' = w := by
  have a3 : w.cell? ⟨C, 3, none⟩ = some (.bool false) := h.cell 3
  clear h
  go_enter Tryz.func159, Tryz.ntmps159
  go_wp2
  go_ret
  exact ⟨rfl, rfl⟩
theorem gotAge_any (n : Nat) (v : Value) (s : Nat) (hn : n < 18446744073709551616) (hs : s < 18446744073709551616) (C : Nat) (w : World) (h : BlkIs (gotCells n v) 199 C w) :
    Calls Tryz.prog 160 #[.pointer (some ⟨C, 0, none⟩), .int .u64 s] w fun e w' => e = .returned (.int .i64 (diffI n s)) ∧ w' = w := by
  have a0 : w.cell? ⟨C, 0, none⟩ = some (.int .u64 n) := h.cell 0
  have HD := Lib.hid (seqDiff_any n s hn hs)
  clear h
  go_enter Tryz.func160, Tryz.ntmps160
  go_wp2_with (go_at_call 155; (with_reducible refine (HD.out _).mono ?_); rintro e w1 ⟨rfl, rfl⟩)
  go_ret
  exact ⟨rfl, rfl⟩
theorem gotPut_first (C : Nat) (w : World) (h : BlkIs (gotCells 0 (.slice none 0 0)) 199 C w) :
    Calls Tryz.prog 132 #[.pointer (some ⟨C, 0, none⟩), .int .u64 5, .bool false] w fun e w' => ∃ g, e = .returned (.bool true) ∧ GotAt 5 [0] C g 1 w' ∧ Kept [C] w w' ∧ w.heap.size ≤ g := by
  have HF := Lib.hid (gotForgotten_no 0 _ 5 C w h)
  have HA := Lib.hid (gotAge_any 0 _ 5 (by decide) (by decide) C w h)
  have HO := Lib.hid (fun W => seqOf_any 5 (by decide) W)
  have a1 : w.cell? ⟨C, 1, none⟩ = some (.slice none 0 0) := h.cell 1
  have a0 : w.cell? ⟨C, 0, none⟩ = some (.int .u64 0) := h.cell 0
  have f0 := h.free 0
  have f1 := h.free 1
  have hC := h.lt
  have H := Lib.hid h
  clear h
  go_enter Tryz.func132, Tryz.ntmps132
  go_wp2_with (first
    | (go_at_call 159; (refine HF.out.mono ?_); rintro e w1 ⟨rfl, rfl⟩)
    | (go_at_call 160; (refine HA.out.mono ?_); rintro e w1 ⟨rfl, rfl⟩)
    | (go_at_call 82; (refine (HO.out _).mono ?_); rintro e w1 ⟨rfl, rfl⟩))
  go_ret
  have h2 := ((H.out.set 0 (.int .u64 5)).set 1 (.slice (some ⟨w1.heap.size, 0, none⟩) 1 1)).alloc (.cells #[.int .i64 0] 3)
  have h3 := BlkIs.new #[.int .i64 0] 3 ((w1.setCell ⟨C, 0, none⟩ (.int .u64 5)).setCell ⟨C, 1, none⟩ (.slice (some ⟨w1.heap.size, 0, none⟩) 1 1))
  have hs : ((w1.setCell ⟨C, 0, none⟩ (.int .u64 5)).setCell ⟨C, 1, none⟩ (.slice (some ⟨w1.heap.size, 0, none⟩) 1 1)).heap.size = w1.heap.size := by simp
  rw [hs] at h3
  refine ⟨w1.heap.size, rfl, ⟨h2, fun i v hv => ?_, fun i => h3.free i, h3.lt, by omega, Nat.le_refl _, by decide⟩, ?_, Nat.le_refl _⟩
  · rw [h3.cell]
    rcases i with _ | i
    · cases hv; rfl
    · cases hv
  · exact (((Kept.refl [C] w1).setCell (.inl (by simp)) _).setCell (.inl (by simp)) _).alloc _
end Go.Proofs.YtnhlachoimlhhaaGreatDoor

namespace Go.Proofs.YtnhlachoimlhhaaGreatDoor
open Go.ChangeShapes Go.WideShapes Go.ChangeAt Go.RowKit
set_option linter.unusedVariables false
set_option linter.unusedSimpArgs false

def laysIns_ren : Go.Shelf.Ren := ⟨fun | 21 => 190 | 27 => 216 | 28 => 217 | 35 => 251 | 39 => 284 | n => n, fun | 0 => 0 | 3 => 3 | 4 => 4 | 22 => 61 | n => n, fun | n => n⟩
theorem laysIns : Lays2.n21 Tryz.prog laysIns_ren := {
  mixed := by kernel_rfl
  f21 := Tryz.func190.trans (congrArg some (by kernel_rfl))
  f27 := Tryz.func216.trans (congrArg some (by kernel_rfl))
  f28 := Tryz.func217.trans (congrArg some (by kernel_rfl))
  f35 := Tryz.func251.trans (congrArg some (by kernel_rfl))
  f39 := Tryz.func284.trans (congrArg some (by kernel_rfl))
  t0 := Tryz.underlying0
  a0 := Tryz.isAgg0
  z0 := Tryz.sizeOf0
  v0 := Tryz.zeroValue0
  t3 := Tryz.underlying3
  a3 := Tryz.isAgg3
  z3 := Tryz.sizeOf3
  v3 := Tryz.zeroValue3
  t4 := Tryz.underlying4
  a4 := Tryz.isAgg4
  z4 := Tryz.sizeOf4
  v4 := Tryz.zeroValue4
  t22 := Tryz.underlying61
  a22 := Tryz.isAgg61
  z22 := Tryz.sizeOf61
  v22 := Tryz.zeroValue61
  i3 := by kernel_rfl }
set_option maxRecDepth 100000 in
theorem repeat_two (b : Nat) (w : World) (hb : w.cell? ⟨b, 0, none⟩ = some (.int .i64 3)) :
    Calls Tryz.prog 218 #[.slice (some ⟨b, 0, none⟩) 1 1, .int .i64 2] w fun e w' => ∃ g, e = .returned (.slice (some ⟨g, 0, none⟩) 2 2) ∧ BlkIs #[.int .i64 3, .int .i64 3] 3 g w' ∧ w.heap.size ≤ g ∧ Below w.heap.size w w' := by
  have HM : Hid (∀ W, Calls Tryz.prog 252 #[.int .u64 1, .int .u64 2] W fun e w' => e = .returned (.tuple #[.int .u64 0, .int .u64 2]) ∧ w' = W) := Lib.hid (fun W => Tryz.bits_Mul 1 2 (by decide) (by decide) W)
  have hlt : b < w.heap.size := World.block_lt_of_cell? w _ hb
  have hmk : ∀ W : World, (Instr.makeSlice 61 (.int .i64 2) (.int .i64 2)).run Tryz.prog W = .ok (.slice (some ⟨W.heap.size, 0, none⟩) 2 2) (W.alloc (.cells #[.int .i64 0, .int .i64 0] 3)) := fun _ => by kernel_rfl
  have hsz : (Tryz.prog.info? 3).map (·.size) = some 1 := by kernel_rfl
  obtain ⟨g, hg⟩ : ∃ g, w.heap.size = g := ⟨_, rfl⟩
  have hb0 : BlkIs #[.int .i64 0, .int .i64 0] 3 g (w.alloc (.cells #[.int .i64 0, .int .i64 0] 3)) := by rw [← hg]; exact BlkIs.new _ _ _
  have hb1 : (w.alloc (.cells #[.int .i64 0, .int .i64 0] 3)).cell? ⟨b, 0, none⟩ = some (.int .i64 3) := by rw [(bel_alloc w _).cell (p := ⟨b, 0, none⟩) hlt]; exact hb
  have HBel := Lib.hid (bel_alloc w (.cells #[.int .i64 0, .int .i64 0] 3))
  obtain ⟨W1, hW1⟩ : ∃ W1, w.alloc (.cells #[.int .i64 0, .int .i64 0] 3) = W1 := ⟨_, rfl⟩
  have hmk1 := hmk w
  rw [hW1, hg] at hmk1
  rw [hW1] at hb0 hb1 HBel
  have hcpA : ∀ ty dc sc, (Builtin.copy_ #[61, 61] ty #[.slice (some ⟨g, 0, none⟩) 2 dc, .slice (some ⟨b, 0, none⟩) 1 sc]).run Tryz.prog W1 = .ok (.int .i64 1) (W1.setCell ⟨g, 0, none⟩ (.int .i64 3)) := fun ty dc sc =>
    run_copy_cells W1 _ _ ty 3 g 0 2 dc ⟨b, 0, none⟩ 1 sc [.int .i64 3] Tryz.underlying61 hsz rfl
      (fun j v hj => by
        rcases j with _ | j
        · cases hj; exact hb1
        · cases hj)
      (fun j hj => by
        obtain rfl : j = 0 := by simpa using hj
        rw [hb0.cell]; rfl) (fun j hj => hb0.free _) (by intro v hv; simp at hv; subst hv; rfl)
  have hb2 := hb0.set 0 (.int .i64 3)
  have hcpB : ∀ W, BlkIs #[.int .i64 3, .int .i64 0] 3 g W → ∀ ty dc sc, (Builtin.copy_ #[61, 61] ty #[.slice (some ⟨g, 1, none⟩) 1 dc, .slice (some ⟨g, 0, none⟩) 1 sc]).run Tryz.prog W = .ok (.int .i64 1) (W.setCell ⟨g, 1, none⟩ (.int .i64 3)) := fun W h ty dc sc =>
    run_copy_cells W _ _ ty 3 g 1 1 dc ⟨g, 0, none⟩ 1 sc [.int .i64 3] Tryz.underlying61 hsz rfl
      (fun j v hj => by
        rcases j with _ | j
        · cases hj; exact h.cell 0
        · cases hj)
      (fun j hj => by
        obtain rfl : j = 0 := by simpa using hj
        rw [h.cell]; rfl) (fun j hj => h.free _) (by intro v hv; simp at hv; subst hv; rfl)
  have HB2 : Hid (BlkIs #[.int .i64 3, .int .i64 0] 3 g (W1.setCell ⟨g, 0, none⟩ (.int .i64 3))) := Lib.hid hb2
  have HB3 : Hid (BlkIs #[.int .i64 3, .int .i64 3] 3 g ((W1.setCell ⟨g, 0, none⟩ (.int .i64 3)).drew.setCell ⟨g, 1, none⟩ (.int .i64 3))) := Lib.hid (BlkIs.set (w := (W1.setCell ⟨g, 0, none⟩ (.int .i64 3)).drew) hb2 1 (.int .i64 3))
  have HK : Hid (Below g w ((W1.setCell ⟨g, 0, none⟩ (.int .i64 3)).drew.setCell ⟨g, 1, none⟩ (.int .i64 3))) := Lib.hid (by
    rw [← hg]
    rw [← hW1]
    exact ((((Kept.refl [w.heap.size] w).alloc _).setCell (.inr (by simp [hg])) _).drew.setCell (.inr (by simp [hg])) _).below (Nat.le_refl _) (by simp))
  clear hb hb0 hb1 hb2 HBel hmk
  rw [hg]
  have mixed : Tryz.prog.follows .mixedOrders = true := by kernel_rfl
  have HCB := Lib.hid hcpB
  clear hcpB hW1 hsz
  obtain ⟨W2, hW2⟩ : ∃ W2, W1.setCell ⟨g, 0, none⟩ (.int .i64 3) = W2 := ⟨_, rfl⟩
  rw [hW2] at hcpA HB2 HB3 HK
  clear hW2
  go_enter Tryz.func218, Tryz.ntmps218
  go_wp2_with (first
    | (go_at_call 252; (refine (HM.out _).mono ?_); rintro e w1 ⟨rfl, rfl⟩)
    | (at_builtin; refine wpList_copy_runI _ rfl _ _ 61 61 rfl _ _ rfl rfl (hcpA _ _ _) ?_))
  go_loopw [8] (fun i wr => (i = .int .i64 1 ∧ wr = W2) ∨ (i = .int .i64 2 ∧ wr = W2.drew.setCell ⟨g, 1, none⟩ (.int .i64 3))) (fun i _ => 2 - (intOf i).toNat)
  case atStart => exact .inl ⟨rfl, rfl⟩
  case round =>
    rcases hrel with ⟨rfl, rfl⟩ | ⟨rfl, rfl⟩
    · go_wp2
      go_region_law_o (refine step_copy_runI rfl _ _ 61 61 rfl (.slice (some ⟨g, 1, none⟩) 1 1) (.slice (some ⟨g, 0, none⟩) 1 2) (by simp [Act.eval, Act.put]) (by simp [Act.eval, Act.put]) (HCB.out _ (HB2.out.drewN 1) 3 1 2) ?_)
      refine ⟨⟨_, _, _, _, _, _, _, _, _, _, _, _, _, _, ?h, rfl⟩, ?m⟩
      case h => exact .inr ⟨rfl, rfl⟩
      case m => exact (by decide : 2 - (2 : Int).toNat < 2 - (1 : Int).toNat)
    · go_wp2
      go_ret
      exact ⟨g, rfl, HB3.out, Nat.le_refl _, HK.out⟩
end Go.Proofs.YtnhlachoimlhhaaGreatDoor

namespace Go.Proofs.YtnhlachoimlhhaaGreatDoor
open Go.ChangeShapes Go.WideShapes Go.ChangeAt Go.RowKit
set_option linter.unusedVariables false
set_option linter.unusedSimpArgs false

theorem Kept.cell {S : List Nat} {w w' : World} (k : Kept S w w') {p : Addr} (hlt : p.block < w.heap.size) (hn : p.block ∉ S) : w'.cell? p = w.cell? p := by
  unfold World.cell?
  rw [k.block _ hlt hn]
theorem Kept.frozen {S : List Nat} {w w' : World} (k : Kept S w w') {p : Addr} (hlt : p.block < w.heap.size) (hn : p.block ∉ S) : w'.frozen? p = w.frozen? p := by
  unfold World.frozen?
  rw [k.block _ hlt hn]
theorem GotAt.kept {n : Nat} {l : List Int} {C g cap : Nat} {S : List Nat} {w w' : World} (h : GotAt n l C g cap w) (k : Kept S w w') (h1 : C ∉ S) (h2 : g ∉ S) : GotAt n l C g cap w' :=
  ⟨h.blk.kept k h1, fun i v hv => (k.cell h.lt h2).trans (h.row i v hv), fun i => (k.frozen (p := ⟨g, i, none⟩) h.lt h2).trans (h.free i), Nat.lt_of_lt_of_le h.lt k.size, h.ne, h.cap1, h.cap2⟩
theorem GotAt.below {n : Nat} {l : List Int} {C g cap : Nat} {w w' : World} (h : GotAt n l C g cap w) (k : Below w.heap.size w w') : GotAt n l C g cap w' := h.kept (Kept.of_below [] k) (by simp) (by simp)
theorem GotAt.drewN {n : Nat} {l : List Int} {C g cap : Nat} {w : World} (h : GotAt n l C g cap w) (k : Nat) : GotAt n l C g cap (w.drewN k) := h.below (bel_drewN w k)
theorem GotAt.setNewest {n : Nat} {l : List Int} {C g cap : Nat} {w : World} (h : GotAt n l C g cap w) (m : Nat) : GotAt m l C g cap (w.setCell ⟨C, 0, none⟩ (.int .u64 m)) :=
  ⟨h.blk.set 0 _, fun i v hv => (World.cell?_setCell_far _ _ _ _ (fun e => h.ne e.symm)).trans (h.row i v hv), fun i => by rw [World.frozen?_setCell]; exact h.free i, by simpa using h.lt, h.ne, h.cap1, h.cap2⟩
theorem GotAt.setState {n : Nat} {l : List Int} {C g cap : Nat} {w : World} (h : GotAt n l C g cap w) (k : Nat) (hk : k < l.length) (v : Int) : GotAt n (l.set k v) C g cap (w.setCell ⟨g, k, none⟩ (.int .i64 v)) := by
  refine ⟨?_, fun i u hu => ?_, fun i => ?_, ?_, h.ne, ?_, h.cap2⟩
  · rw [List.length_set]; exact h.blk.far (fun e => h.ne e.symm) _
  · rw [List.getElem?_set] at hu
    by_cases e : k = i
    · rw [if_pos e, if_pos hk] at hu
      cases hu
      subst e
      obtain ⟨u0, hu0⟩ : ∃ u0, l[k]? = some u0 := ⟨_, List.getElem?_eq_getElem hk⟩
      exact World.cell?_setCell_same _ _ _ (h.row k u0 hu0)
    · rw [if_neg e] at hu
      exact (World.cell?_setCell_other _ _ _ _ (fun h2 => e (congrArg Addr.off h2))).trans (h.row i u hu)
  · rw [World.frozen?_setCell]; exact h.free i
  · simpa using h.lt
  · rw [List.length_set]; exact h.cap1
theorem gotLost_two (w : World) : Calls Tryz.prog 191 #[.int .i64 2] w fun e w' => ∃ g, e = .returned (.slice (some ⟨g, 0, none⟩) 2 2) ∧ BlkIs #[.int .i64 3, .int .i64 3] 3 g w' ∧ w.heap.size ≤ g ∧ Below w.heap.size w w' := by
  have HR := Lib.hid (repeat_two w.heap.size (w.alloc (.cells #[.int .i64 3] 3)) ((BlkIs.new #[.int .i64 3] 3 w).cell 0))
  go_enter Tryz.func191, Tryz.ntmps191
  go_wp2_with (go_at_call 218; (with_reducible refine HR.out.mono ?_); rintro e w1 ⟨g, rfl, h1, h2, h3⟩)
  go_ret
  have := (bel_alloc w (.cells #[.int .i64 3] 3)).size
  exact ⟨g, rfl, h1, by omega, bel_trans (bel_alloc _ _) h3⟩
theorem insert_lost (b c vb vc : Nat) (x : Int) (w : World) (hc : 1 ≤ c) (hc2 : c < 3) (hb : w.cell? ⟨b, 0, none⟩ = some (.int .i64 x)) (hv : BlkIs #[.int .i64 3, .int .i64 3] 3 vb w) :
    Calls Tryz.prog 190 #[.slice (some ⟨b, 0, none⟩) 1 c, .int .i64 0, .slice (some ⟨vb, 0, none⟩) 2 vc] w fun e w' => ∃ cap, e = .returned (.slice (some ⟨w.heap.size, 0, none⟩) 3 cap) ∧ 3 ≤ cap ∧ cap ≤ 9223372036854775807 ∧ (∀ i v, [3, 3, x][i]? = some v → w'.cell? ⟨w.heap.size, i, none⟩ = some (.int .i64 v)) ∧ (∀ i, w'.frozen? ⟨w.heap.size, i, none⟩ = false) ∧ w.heap.size < w'.heap.size ∧ Below w.heap.size w w' := by
  have h := Any2.slices_Insert_int_grow (ρ := laysIns_ren) laysIns b 0 1 c 0 vb 0 2 vc [.int .i64 x] [.int .i64 3, .int .i64 3] w (by decide) (by decide) hc (by omega) (by decide) rfl rfl
    (fun j v hj => by
      rcases j with _ | j
      · cases hj; exact hb
      · cases hj)
    (fun j v hj => by
      rw [Nat.zero_add, hv.cell]
      rcases j with _ | _ | j
      · cases hj; rfl
      · cases hj; rfl
      · cases hj)
    (by intro v hv; simp at hv; subst hv; rfl) (by intro v hv; simp at hv; subst hv; rfl)
  refine Calls.mono (show Calls Tryz.prog 190 _ w _ from h) ?_
  rintro e w' ⟨rfl, rfl⟩
  have g1 := grownCap_ge w (1 + 2) c (laysIns_ren.t 3)
  have g2 := grownCap_le_maxLen w (1 + 2) c (laysIns_ren.t 3) (by unfold maxLen; omega)
  unfold maxLen at g2
  generalize grownCap w (1 + 2) c (laysIns_ren.t 3) = G at *
  have e0 : Builtin.zeroCells (Value.int .i64 0).cells 3 = #[.int .i64 0, .int .i64 0, .int .i64 0] := by kernel_rfl
  have k0 := BlkIs.new ((([Value.int .i64 x].take 0).toArray ++ Builtin.zeroCells (Value.int .i64 0).cells (1 + 2 - 0) ++ Builtin.zeroCells (Value.int .i64 0).cells (G - (1 + 2)))) 3 w
  have hk : Below w.heap.size w (((w.alloc (.cells (([Value.int .i64 x].take 0).toArray ++ Builtin.zeroCells (Value.int .i64 0).cells (1 + 2 - 0) ++ Builtin.zeroCells (Value.int .i64 0).cells (G - (1 + 2))) 3)).drew.setCells w.heap.size 0 [.int .i64 3, .int .i64 3]).drew.setCells w.heap.size (0 + 2) ([Value.int .i64 x].drop 0)) :=
    ((((((Kept.refl [] w).alloc _).drew.setCell (.inr (Nat.le_refl _)) _).setCell (.inr (Nat.le_refl _)) _).drew.setCell (.inr (Nat.le_refl _)) _)).below (Nat.le_refl _) (by simp)
  have k1 : BlkIs _ 3 w.heap.size (((w.alloc (.cells (([Value.int .i64 x].take 0).toArray ++ Builtin.zeroCells (Value.int .i64 0).cells (1 + 2 - 0) ++ Builtin.zeroCells (Value.int .i64 0).cells (G - (1 + 2))) 3)).drew.setCells w.heap.size 0 [.int .i64 3, .int .i64 3]).drew.setCells w.heap.size (0 + 2) ([Value.int .i64 x].drop 0)) :=
    BlkIs.set (BlkIs.drewN (BlkIs.set (BlkIs.set (BlkIs.drewN k0 1) 0 (.int .i64 3)) 1 (.int .i64 3)) 1) 2 (.int .i64 x)
  refine ⟨G, rfl, by omega, by omega, fun i v hi => ?_, fun i => k1.free i, k1.lt, hk⟩
  refine (BlkIs.cell k1 i).trans ?_
  rw [show (1 + 2 - 0 : Nat) = 3 from rfl, e0]
  generalize Builtin.zeroCells (Value.int .i64 0).cells (G - (1 + 2)) = Z
  obtain ⟨zs⟩ := Z
  have e1 : ((((([Value.int .i64 x].take 0).toArray ++ (#[.int .i64 0, .int .i64 0, .int .i64 0] : Array Value) ++ (⟨zs⟩ : Array Value)).setIfInBounds 0 (.int .i64 3)).setIfInBounds 1 (.int .i64 3)).setIfInBounds 2 (.int .i64 x)) = (⟨.int .i64 3 :: .int .i64 3 :: .int .i64 x :: zs⟩ : Array Value) := by simp
  rw [e1]
  rcases i with _ | _ | _ | i
  · cases hi; rfl
  · cases hi; rfl
  · cases hi; rfl
  · cases hi
theorem gotTrim_keep (n : Nat) (C g cap : Nat) (w : World) (h : GotAt n [1, 3, 0] C g cap w) :
    Calls Tryz.prog 192 #[.pointer (some ⟨C, 0, none⟩)] w fun e w' => e = .returned (.tuple #[]) ∧ Below w.heap.size w w' := by
  have a1 : w.cell? ⟨C, 1, none⟩ = some (.slice (some ⟨g, 0, none⟩) 3 cap) := h.blk.cell 1
  have a2 : w.cell? ⟨g, 2, none⟩ = some (.int .i64 0) := h.row 2 0 rfl
  have hc1 : 3 ≤ cap := h.cap1
  have hc2 := h.cap2
  clear h
  go_enter Tryz.func192, Tryz.ntmps192
  go_wp2
  refine wp_loop_rounds 1 ?_
  rw [rounds_succ]
  go_wp2
  go_quiet (fail)
  go_wp2
  go_end0
  exact ⟨rfl, bel_drewN _ _⟩
theorem GotAt.setSlice {n : Nat} {l l2 : List Int} {C g cap g2 cap2 : Nat} {w : World} (h : GotAt n l C g cap w) (hrow : ∀ i v, l2[i]? = some v → w.cell? ⟨g2, i, none⟩ = some (.int .i64 v)) (hfr : ∀ i, w.frozen? ⟨g2, i, none⟩ = false) (hlt : g2 < w.heap.size) (hne : g2 ≠ C) (h1 : l2.length ≤ cap2) (h2 : cap2 ≤ 9223372036854775807) :
    GotAt n l2 C g2 cap2 (w.setCell ⟨C, 1, none⟩ (.slice (some ⟨g2, 0, none⟩) l2.length cap2)) :=
  ⟨h.blk.set 1 _, fun i v hv => (World.cell?_setCell_far _ _ _ _ (fun e => hne e.symm)).trans (hrow i v hv), fun i => by rw [World.frozen?_setCell]; exact hfr i, by simpa using hlt, hne, h1, h2⟩
set_option maxHeartbeats 1000000 in
theorem gotLead_two (C g : Nat) (w : World) (h : GotAt 5 [0] C g 1 w) :
    Calls Tryz.prog 161 #[.pointer (some ⟨C, 0, none⟩), .int .u64 7, .int .i64 1] w fun e w' => ∃ g2 cap2, e = .returned (.tuple #[]) ∧ GotAt 7 [1, 3, 0] C g2 cap2 w' ∧ Kept [C] w w' ∧ w.heap.size ≤ g2 := by
  have HA : Hid (Calls Tryz.prog 160 #[.pointer (some ⟨C, 0, none⟩), .int .u64 7] w fun e w' => e = .returned (.int .i64 (-2)) ∧ w' = w) := Lib.hid (gotAge_any 5 _ 7 (by decide) (by decide) C w h.blk)
  have HL := Lib.hid (gotLost_two w.drew)
  have H := Lib.hid h
  have a1 : w.cell? ⟨C, 1, none⟩ = some (.slice (some ⟨g, 0, none⟩) 1 1) := h.blk.cell 1
  have f1 := h.blk.free 1
  have i1 : min (2 : Int) 250 = 2 := by decide
  have i2 : (if (250 : Int) < 2 then (250 : Int) else 2) = 2 := by decide
  clear h
  go_enter Tryz.func161, Tryz.ntmps161
  go_upto_region 1 with (go_at_call 160; (with_reducible refine HA.out.mono ?_); rintro e w1 ⟨rfl, rfl⟩)
  go_cut [6] (fun s6 wx => s6 = .int .i64 2 ∧ ∃ g2 cap2, GotAt 5 [3, 3, 0] C g2 cap2 wx ∧ Kept [C] w1 wx ∧ w1.heap.size ≤ g2)
  case first =>
    go_region_with ((first
      | (go_at_call 191; (with_reducible refine HL.out.mono ?_); rintro e W1 ⟨v, rfl, hb1, hs1, hk1⟩; have H1 : Hid (GotAt 5 [0] C g 1 W1) := Lib.hid ((H.out.drewN 1).below hk1); have a2 : W1.cell? ⟨C, 1, none⟩ = some (.slice (some ⟨g, 0, none⟩) 1 1) := H1.out.blk.cell 1)
      | (go_at_call 190; (refine (insert_lost g 1 v 2 0 W1 (by decide) (by decide) (H1.out.row 0 0 rfl) hb1).mono ?_); rintro e W2 ⟨cap2, rfl, hc1, hc2, hrow, hfr, hlt, hk2⟩; have H2 : Hid (GotAt 5 [0] C g 1 W2) := Lib.hid (H1.out.below hk2); have a3 : W2.cell? ⟨C, 1, none⟩ = some (.slice (some ⟨g, 0, none⟩) 1 1) := H2.out.blk.cell 1; have f3 := H2.out.blk.free 1)))
    all_goals (
      go_wp2_with fail
      go_meet
      have hs1' : w1.heap.size ≤ W1.heap.size := hk1.size
      have hC := H1.out.blk.lt
      exact ⟨rfl, _, _, GotAt.setSlice (l2 := [3, 3, 0]) H2.out hrow hfr hlt (by omega) hc1 hc2, ((((Kept.refl [C] w1).drew.trans' (Kept.of_below _ hk1)).trans' (Kept.of_below _ hk2)).setCell (.inl (by simp)) _), hs1'⟩)
  case rest =>
    obtain ⟨rfl, g2, cap2, h2, hk2, hs2⟩ := hcut
    have c1 : wc.cell? ⟨C, 1, none⟩ = some (.slice (some ⟨g2, 0, none⟩) 3 cap2) := h2.blk.cell 1
    have d1 := h2.blk.free 1
    have hc1 : 3 ≤ cap2 := h2.cap1
    have hc2 := h2.cap2
    have j1 : min (3 : Int) 250 = 3 := by decide
    have j2 : (if (250 : Int) < 3 then (250 : Int) else 3) = 3 := by decide
    have H2 := Lib.hid h2
    clear h2 a1 f1 H HL HA
    have HO : Hid (∀ W, Calls Tryz.prog 82 #[.int .u64 7] W fun e w' => e = .returned (.int .u64 7) ∧ W = w') := Lib.hid (fun W => seqOf_any 7 (by decide) W)
    go_wp2
    go_region
    obtain ⟨W3, hW3⟩ : ∃ W3, (wc.setCell ⟨C, 1, none⟩ (.slice (some ⟨g2, 0, none⟩) 3 cap2)).drew = W3 := ⟨_, rfl⟩
    have h3 : GotAt 5 [3, 3, 0] C g2 cap2 W3 := by
      rw [← hW3]
      exact (GotAt.setSlice (l2 := [3, 3, 0]) H2.out H2.out.row H2.out.free H2.out.lt H2.out.ne H2.out.cap1 H2.out.cap2).drewN 1
    have hk3 : Kept [C] w1 W3 := by
      rw [← hW3]
      exact (hk2.setCell (.inl (by simp)) _).drew
    rw [hW3]
    clear hW3 hk2 H2 c1 d1
    have c0 : W3.cell? ⟨C, 0, none⟩ = some (.int .u64 5) := h3.blk.cell 0
    have c1 : W3.cell? ⟨C, 1, none⟩ = some (.slice (some ⟨g2, 0, none⟩) 3 cap2) := h3.blk.cell 1
    have c2 : W3.cell? ⟨g2, 0, none⟩ = some (.int .i64 3) := h3.row 0 3 rfl
    have d0 := h3.blk.free 0
    have d2 := h3.free 0
    have e1 := h3.ne
    have e2 : C ≠ g2 := fun e => e1 e.symm
    have H3 := Lib.hid h3
    have HK3 := Lib.hid hk3
    clear h3 hk3
    go_wp2
    go_region_with (go_at_call 82; (with_reducible refine (HO.out _).mono ?_); rintro e w5 ⟨rfl, rfl⟩)
    all_goals (
      obtain ⟨W4, hW4⟩ : ∃ W4, ((W3.setCell ⟨C, 0, none⟩ (.int .u64 7)).setCell ⟨g2, 0, none⟩ (.int .i64 1)).drew = W4 := ⟨_, rfl⟩
      have h4 : GotAt 7 [1, 3, 0] C g2 cap2 W4 := by
        rw [← hW4]
        exact ((H3.out.setNewest 7).setState 0 (by decide) 1).drewN 1
      have hk4 : Kept [C] w1 W4 := by
        rw [← hW4]
        exact ((HK3.out.setCell (.inl (by simp)) _).setCell (.inr hs2) _).drew
      rw [hW4]
      clear hW4 c0 c1 c2 d0 d2
      have HT := Lib.hid (gotTrim_keep 7 C g2 cap2 W4 h4)
      go_wp2_with (go_at_call 192; (with_reducible refine HT.out.mono ?_); rintro e W5 ⟨rfl, hb5⟩)
      go_end0
      exact ⟨g2, cap2, rfl, h4.below hb5, hk4.trans' (Kept.of_below _ hb5), hs2⟩)
theorem gotPut_lead (C g : Nat) (w : World) (h : GotAt 5 [0] C g 1 w) :
    Calls Tryz.prog 132 #[.pointer (some ⟨C, 0, none⟩), .int .u64 7, .bool true] w fun e w' => ∃ g2 cap2, e = .returned (.bool true) ∧ GotAt 7 [1, 3, 0] C g2 cap2 w' ∧ Kept [C] w w' ∧ w.heap.size ≤ g2 := by
  have HF : Hid (Calls Tryz.prog 159 #[.pointer (some ⟨C, 0, none⟩), .int .u64 7] w fun e w' => e = .returned (.bool false) ∧ w' = w) := Lib.hid (gotForgotten_no 5 _ 7 C w h.blk)
  have HA : Hid (Calls Tryz.prog 160 #[.pointer (some ⟨C, 0, none⟩), .int .u64 7] w fun e w' => e = .returned (.int .i64 (-2)) ∧ w' = w) := Lib.hid (gotAge_any 5 _ 7 (by decide) (by decide) C w h.blk)
  have HL := Lib.hid (gotLead_two C g w h)
  have a1 : w.cell? ⟨C, 1, none⟩ = some (.slice (some ⟨g, 0, none⟩) 1 1) := h.blk.cell 1
  clear h
  go_enter Tryz.func132, Tryz.ntmps132
  go_wp2_with (first
    | (go_at_call 159; (with_reducible refine HF.out.mono ?_); rintro e w1 ⟨rfl, rfl⟩)
    | (go_at_call 160; (with_reducible refine HA.out.mono ?_); rintro e w1 ⟨rfl, rfl⟩)
    | (go_at_call 161; (with_reducible refine HL.out.mono ?_); rintro e w2 ⟨g2, cap2, rfl, h2, hk2, hs2⟩))
  go_ret
  exact ⟨g2, cap2, rfl, h2, hk2, hs2⟩
theorem gotThere_two (C g cap : Nat) (w : World) (h : GotAt 7 [1, 3, 0] C g cap w) :
    Calls Tryz.prog 162 #[.pointer (some ⟨C, 0, none⟩), .int .i64 2] w fun e w' => e = .returned (.bool true) ∧ w' = w := by
  have a1 : w.cell? ⟨C, 1, none⟩ = some (.slice (some ⟨g, 0, none⟩) 3 cap) := h.blk.cell 1
  have a2 : w.cell? ⟨g, 2, none⟩ = some (.int .i64 0) := h.row 2 0 rfl
  clear h
  go_enter Tryz.func162, Tryz.ntmps162
  go_wp2
  go_ret
  exact ⟨rfl, rfl⟩
theorem gotPut_there (C g cap : Nat) (w : World) (h : GotAt 7 [1, 3, 0] C g cap w) :
    Calls Tryz.prog 132 #[.pointer (some ⟨C, 0, none⟩), .int .u64 5, .bool false] w fun e w' => e = .returned (.bool false) ∧ w' = w := by
  have HF : Hid (Calls Tryz.prog 159 #[.pointer (some ⟨C, 0, none⟩), .int .u64 5] w fun e w' => e = .returned (.bool false) ∧ w' = w) := Lib.hid (gotForgotten_no 7 _ 5 C w h.blk)
  have HA : Hid (Calls Tryz.prog 160 #[.pointer (some ⟨C, 0, none⟩), .int .u64 5] w fun e w' => e = .returned (.int .i64 2) ∧ w' = w) := Lib.hid (gotAge_any 7 _ 5 (by decide) (by decide) C w h.blk)
  have HT := Lib.hid (gotThere_two C g cap w h)
  have a1 : w.cell? ⟨C, 1, none⟩ = some (.slice (some ⟨g, 0, none⟩) 3 cap) := h.blk.cell 1
  clear h
  go_enter Tryz.func132, Tryz.ntmps132
  go_wp2_with (first
    | (go_at_call 159; (with_reducible refine HF.out.mono ?_); rintro e w1 ⟨rfl, rfl⟩)
    | (go_at_call 160; (with_reducible refine HA.out.mono ?_); rintro e w1 ⟨rfl, rfl⟩)
    | (go_at_call 162; (with_reducible refine HT.out.mono ?_); rintro e w1 ⟨rfl, rfl⟩))
  go_ret
  exact ⟨rfl, rfl⟩
theorem gotCells_three (C g cap : Nat) (w : World) (h : GotAt 7 [1, 3, 0] C g cap w) :
    Calls Tryz.prog 133 #[.pointer (some ⟨C, 0, none⟩)] w fun e w' => ∃ v, e = .returned v ∧ C2At w' v [(1, 1), (3, 1), (0, 1)] ∧ Below w.heap.size w w' := by
  have hv : I64At w (.slice (some ⟨g, 0, none⟩) 3 cap) [1, 3, 0] := ⟨⟨_, cap, rfl, h.cap1, h.cap2, fun i hi => ⟨g, 0, rfl, h.lt, by
    rw [Nat.zero_add]
    refine (h.row i _ (List.getElem?_eq_getElem hi)).trans ?_
    rw [List.getD_eq_getElem?_getD, List.getElem?_eq_getElem hi]
    rfl⟩⟩, by decide, fun i => by
    rcases i with _ | _ | _ | i
    · decide
    · decide
    · decide
    · exact (by decide : -9223372036854775808 ≤ (0 : Int) ∧ (0 : Int) ≤ 9223372036854775807)⟩
  have HV := Lib.hid (vecOf_any _ _ w hv)
  have a1 : w.cell? ⟨C, 1, none⟩ = some (.slice (some ⟨g, 0, none⟩) 3 cap) := h.blk.cell 1
  clear h
  go_enter Tryz.func133, Tryz.ntmps133
  go_wp2_with (go_at_call 164; (with_reducible refine HV.out.mono ?_); rintro e w1 ⟨v, rfl, h1⟩)
  go_ret
  exact ⟨v, rfl, CelOwn.at (l := [(1, 1), (3, 1), (0, 1)]) h1 (by decide) (fun i => by
    rcases i with _ | _ | _ | i
    · decide
    · decide
    · decide
    · exact (by decide : -9223372036854775808 ≤ (0 : Int) ∧ (0 : Int) ≤ 9223372036854775807)), h1.2.1⟩
end Go.Proofs.YtnhlachoimlhhaaGreatDoor
