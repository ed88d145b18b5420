/-
  The law's comparison of two rows of cells.
  A vector read from bytes.
  A vector read from bytes: the document's.
  Cells written as bytes.
  Rows of texts that the call owns.
  Cells written as texts: the document's.
  What is written is read: cells as bytes and back (pure).
  vec.Put: a range over slices.Chunk. (draft: ends in a sorry)
  Rows of numbers, and of pairs of numbers, that came in as arguments, opened.
  What vec.Put writes, as the document's; its texts in memory; rows of cells appended; texts read by vec.Get.
  What the laid table of the weights says.
  The law VecAll, walked.
-/
import Derived.Test.YtnffdacajdjeoaaGreatDoorVecB
import Derived.Test.YtnffdacajdjeoaaGreatDoorVecC
import Derived.Test.YtnffdacajdjeoaaGreatDoorVecE
import Derived.Test.YtnffdacajdjeoaaGreatDoorNumA
import Derived.Test.YtnffdacajdjeoaaGreatDoorVecD
import Derived.BigRegion
import Derived.RangeFuncNested
import Derived.RangeFuncBound
import Derived.RangeFuncCalls
import Derived.RangeFuncLeaves
import Derived.RangeFuncBox
import Derived.RangeFuncWrites
import Derived.Shelf.Abstract
import Derived.Shelf.RegionOpen
import Derived.OwnWalkIn
import Derived.TacticsInMore
import Derived.LoopNIn
import Derived.LoopIn
import Derived.RegionIn
import Derived.BigRegionIn
import Derived.Lib.OwnKind
import Derived.Test.YtnffdacajdjeoaaGreatDoorLfCh
import Derived.Test.YtnffdacajdjeoaaGreatDoorSnD
import Derived.Test.YtnffdacajdjeoaaGreatDoorIvalA
import Derived.Test.YtnffdacajdjeoaaGreatDoorIntR
import Derived.OpenShut
import Derived.ChangeSlices
import Derived.ChangeSame
import Derived.Deep.Slices
import Derived.Deep.SlicePairs
import Derived.Test.YtnffdacajdjeoaaGreatDoorVecF
import Derived.Test.YtnffdacajdjeoaaGreatDoorVecG
import Derived.Test.YtnffdacajdjeoaaGreatDoorRows
import Derived.Lib.LaidU8
import Derived.Lib.LaidTab
import Derived.MakeChecks
import Derived.Test.YtnffdacajdjeoaaGreatDoorBegun8
namespace Go.Proofs.YtnffdacajdjeoaaGreatDoor
open Go.ChangeShapes Go.WideShapes Go.ChangeAt Go.RowKit
set_option linter.unusedVariables false
set_option linter.unusedSimpArgs false

theorem cellsEq_step (a b : List Cel) (k : Nat) (ha : k < a.length) (hb : k < b.length) : decide (a.drop k = b.drop k) = (decide (a.getD k (0, 0) = b.getD k (0, 0)) && decide (a.drop (k + 1) = b.drop (k + 1))) := by
  rw [List.drop_eq_getElem_cons ha, List.drop_eq_getElem_cons hb, List.getD_eq_getElem?_getD, List.getD_eq_getElem?_getD, List.getElem?_eq_getElem ha, List.getElem?_eq_getElem hb]
  simp only [Option.getD_some, List.cons.injEq]
  by_cases h1 : a[k] = b[k] <;> by_cases h2 : a.drop (k + 1) = b.drop (k + 1) <;> simp [h1, h2]
theorem eqF2_cons {P : Program} {w : World} {d : Nat} {xs ys : Array Value} {f : Field} {fs : List Field} {a b : Value} {r c : Bool} (hn : (f.name ≠ "_") = True) (pa : (part f.type xs f.offset).run P w = .ok a w) (pb : (part f.type ys f.offset).run P w = .ok b w)
    (e : (Op.equalIn d f.type a b).run P w = .ok r w) (t : (Op.eqFields d xs ys fs).run P w = .ok c w) : (Op.eqFields d xs ys (f :: fs)).run P w = .ok (r && c) w := by
  unfold Op.eqFields
  rw [if_pos (by rw [hn]; trivial)]
  simp only [Sem.run_bind, pa, pb, e, Result.andThen_ok, Sem.run_ite, t, Sem.run_pure]
  cases r <;> rfl
theorem part_c2 (v0 v1 : Value) (w : World) :
    (part 3 #[v0, v1] 0).run Tryz.prog w = .ok v0 w ∧ (part 3 #[v0, v1] 1).run Tryz.prog w = .ok v1 w := ⟨by kernel_rfl, by kernel_rfl⟩
set_option maxRecDepth 100000 in
theorem equalC2 (a b c d : Int) (w : World) : (Op.equalIn 10000 86 (.agg #[.int .i64 a, .int .i64 b]) (.agg #[.int .i64 c, .int .i64 d])).run Tryz.prog w = .ok ((a == c) && ((b == d) && true)) w := by
  rw [show (10000 : Nat) = 9998 + 1 + 1 from rfl, run_equalIn_struct w _ _ _ _ Tryz.underlying86 (by kernel_rfl)]
  have qi := fun (m n : Int) (w : World) => run_equalIn_int (P := Tryz.prog) w 9998 3 .i64 .i64 m n Tryz.underlying3
  generalize 9998 + 1 = dep at *
  simp only [Program.fieldsOf, Tryz.underlying86]
  obtain ⟨a0, a1⟩ := part_c2 (.int .i64 a) (.int .i64 b) w
  obtain ⟨b0, b1⟩ := part_c2 (.int .i64 c) (.int .i64 d) w
  refine eqF2_cons (by simp) a0 b0 (qi _ _ w) ?_
  refine eqF2_cons (by simp) a1 b1 (qi _ _ w) ?_
  rfl
theorem neqC2 (a b c d : Int) (w : World) : (binOp .neq 86 (.agg #[.int .i64 a, .int .i64 b]) (.agg #[.int .i64 c, .int .i64 d])).run Tryz.prog w = .ok (.bool (!decide ((a, b) = (c, d)))) w := by
  have e := equalC2 a b c d w
  have h : ((a == c) && ((b == d) && true)) = decide ((a, b) = (c, d)) := by
    rw [Bool.eq_iff_iff]; simp
  rw [h] at e
  rw [run_neq_struct, e]; rfl
theorem guardC2 (op : BinOp) (x y : Operand) (a b : Int) (cs : Array Value) (w : World) : (eqGuard op 86 x y (.agg #[.int .i64 a, .int .i64 b]) (.agg cs)).run Tryz.prog w = .ok () w :=
  run_eqGuard_agg w op _ x y _ _ (by kernel_rfl)
set_option maxHeartbeats 4000000 in
set_option maxRecDepth 100000 in
theorem cells_any (u v : Value) (a b : List Cel) (w : World) (hu : C2At w u a) (hv : C2At w v b) :
    Calls Tryz.prog 24 #[u, v] w fun e w' => e = .returned (.bool (decide (a = b))) ∧ ∃ n, w' = w.drewN n := by
  obtain ⟨p, cap, rfl, _, _, hcu⟩ := hu.at_
  obtain ⟨q, cap2, rfl, _, _, hcv⟩ := hv.at_
  have hl1 := hu.len
  have hl2 := hv.len
  have HU := Lib.hid hcu
  have HV := Lib.hid hcv
  clear hcu hcv hu hv
  by_cases hlen : a.length = b.length
  · rw [← hlen] at HV hl2 ⊢
    have HAB : Hid (∀ k, k < a.length → decide (a.drop k = b.drop k) = (decide (a.getD k (0, 0) = b.getD k (0, 0)) && decide (a.drop (k + 1) = b.drop (k + 1)))) := Lib.hid (fun k hk => cellsEq_step a b k hk (by omega))
    have HEND : Hid (∀ k, a.length ≤ k → decide (a.drop k = b.drop k) = true) := Lib.hid (fun k hk => by rw [List.drop_eq_nil_of_le hk, List.drop_eq_nil_of_le (by omega)]; rfl)
    have HST : Hid (decide (a = b) = decide (a.drop 0 = b.drop 0)) := Lib.hid (by rw [List.drop_zero, List.drop_zero])
    obtain ⟨E, hE⟩ : ∃ E, decide (a = b) = E := ⟨_, rfl⟩
    rw [hE] at HST ⊢
    clear hE
    obtain ⟨N, hN⟩ : ∃ N, a.length = N := ⟨_, rfl⟩
    rw [hN] at HU HV HAB HEND hl1 ⊢
    clear hN hlen hl2
    go_enter Tryz.func24, Tryz.ntmps24
    go_wp2
    go_loopw [13] (fun i wr => ∃ k : Nat, i = .int .i64 (k : Int) ∧ k ≤ N ∧ Hid (E = decide (a.drop k = b.drop k)) ∧ Hid (∃ n, wr = w.drewN n)) (fun i _ => N - (intOf i).toNat)
    case atStart => exact ⟨0, rfl, by omega, HST, Lib.hid ⟨0, rfl⟩⟩
    case round =>
      obtain ⟨k, rfl, hk, hEk, hwr⟩ := hrel
      obtain ⟨nw, rfl⟩ := hwr.out
      clear hwr
      by_cases hkn : k < N
      · obtain ⟨b1, o1, rfl, _, c0, c1⟩ := HU.out k hkn
        obtain ⟨b2, o2, rfl, _, d0, d1⟩ := HV.out k hkn
        have hs := HAB.out k hkn
        generalize a.getD k (0, 0) = x at *
        generalize b.getD k (0, 0) = y at *
        obtain ⟨x1, x2⟩ := x
        obtain ⟨y1, y2⟩ := y
        simp only at c0 c1 d0 d1
        have HS := Lib.hid hs
        clear hs
        have hne := neqC2 x1 x2 y1 y2
        have hgz := fun op x y w => guardC2 op x y x1 x2 #[.int .i64 y1, .int .i64 y2] w
        generalize decide ((x1, x2) = (y1, y2)) = E2 at *
        have HQ : ∀ n, Hid (∃ m, (w.drewN nw).drewN n = w.drewN m) := fun n => Lib.hid ⟨nw + n, World.drewN_drewN _ _ _⟩
        cases E2 with
        | true =>
          have HE2 : Hid (E = decide (a.drop (k + 1) = b.drop (k + 1))) := Lib.hid (by rw [hEk.out, HS.out, Bool.true_and])
          go_upto_region 6 with fail
          go_quiet (fail)
          have HQ2 := HQ nq
          clear HQ hne hgz c0 c1 d0 d1
          generalize (w.drewN nw).drewN nq = wz at *
          go_wp2
          refine ⟨⟨k + 1, by go_num, by omega, HE2, HQ2⟩, ?_⟩
          simp [intOf]; omega
        | false =>
          have HE2 : Hid (E = false) := Lib.hid (by rw [hEk.out, HS.out, Bool.false_and])
          go_upto_region 6 with fail
          go_quiet (fail)
          have HQ2 := HQ nq
          clear HQ hne hgz c0 c1 d0 d1
          generalize (w.drewN nw).drewN nq = wz at *
          go_wp2
          go_ret
          exact ⟨by rw [HE2.out]; rfl, HQ2.out⟩
      · obtain rfl : k = N := by omega
        have HE2 : Hid (E = true) := Lib.hid (by rw [hEk.out, HEND.out k (Nat.le_refl _)])
        go_wp2
        go_ret
        exact ⟨by rw [HE2.out]; rfl, nw, rfl⟩
  · have hd : decide ((a.length : Int) = (b.length : Int)) = false := decide_eq_false (by omega)
    have hd2 : ((a.length : Int) == (b.length : Int)) = false := by rw [beq_eq_false_iff_ne]; omega
    have HR : Hid (decide (a = b) = false) := Lib.hid (decide_eq_false (fun h => hlen (by rw [h])))
    clear HU HV
    generalize a.length = A at *
    generalize b.length = B at *
    go_enter Tryz.func24, Tryz.ntmps24
    go_wp2
    go_ret
    exact ⟨by rw [HR.out]; rfl, 0, rfl⟩
end Go.Proofs.YtnffdacajdjeoaaGreatDoor

namespace Go.Proofs.YtnffdacajdjeoaaGreatDoor
open Go.ChangeShapes Go.WideShapes Go.ChangeAt Go.RowKit
set_option linter.unusedVariables false
set_option linter.unusedSimpArgs false

/-- The cell that a byte is. -/
def celOf (b : Nat) : Cel := (((b / 64 : Nat) : Int), ((b % 64 + 1 : Nat) : Int))
set_option maxHeartbeats 4000000 in
theorem cellOf_any (b : Nat) (hb : b < 256) (w : World) : Calls Tryz.prog 89 #[.int .u8 b] w fun e w' => e = .returned (.agg #[.int .i64 (celOf b).1, .int .i64 (celOf b).2]) ∧ Below w.heap.size w w' := by
  go_enter Tryz.func89, Tryz.ntmps89
  go_wp2
  refine bodyPost_ret (v := .agg #[.int .i64 ((b : Int) / 64), .int .i64 ((b : Int) % 64 + 1)]) (by simp [results, Tryz.results89, go_sem]) rfl ⟨?_, bel_alloc _ _⟩
  unfold celOf
  simp
/-- May every byte be a cell? -/
def okB (l : List Nat) : Bool := l.all fun b => decide (b / 64 ≠ 2)
/-- What vec.Get reads. -/
def getF (l : List Nat) : List Cel := if okB l = true then l.map celOf else []
theorem okB_in (l : List Nat) (k : Nat) (hk : k < l.length) (h : (l.getD k 0) / 64 = 2) : okB l = false := by
  unfold okB
  rw [List.all_eq_false]
  refine ⟨l.getD k 0, ?_, by rw [h]; decide⟩
  rw [List.getD_eq_getElem?_getD, List.getElem?_eq_getElem hk]
  exact List.getElem_mem _
theorem take_snocV (l : List Nat) (i : Nat) (h : i < l.length) : l.take (i + 1) = l.take i ++ [l.getD i 0] := by
  rw [List.take_add_one, List.getD_eq_getElem?_getD, List.getElem?_eq_getElem h]; rfl
theorem okB_snoc (l : List Nat) (x : Nat) (h : okB l = true) (hx : x / 64 ≠ 2) : okB (l ++ [x]) = true := by
  unfold okB at *
  rw [List.all_append, h, List.all_cons, decide_eq_true hx]; rfl
theorem celOf_st (b : Nat) (hb : b < 256) : stB (celOf b).1 = decide (b / 64 ≠ 2) := by
  have h : b / 64 = 0 ∨ b / 64 = 1 ∨ b / 64 = 2 ∨ b / 64 = 3 := by omega
  unfold celOf stB
  rcases h with h | h | h | h <;> rw [h] <;> rfl

set_option maxHeartbeats 4000000 in
set_option maxRecDepth 100000 in
theorem vecGet_any (s : ByteArray) (hs : s.size ≤ 1073741824) (w : World) :
    Calls Tryz.prog 27 #[.string s] w fun e w' => ∃ v', e = .returned (.tuple #[v', .bool (okB (s.data.toList.map UInt8.toNat))]) ∧ CelOwn w.heap.size v' (getF (s.data.toList.map UInt8.toNat)) w w' := by
  obtain ⟨l, hl⟩ : ∃ l, s.data.toList.map UInt8.toNat = l := ⟨_, rfl⟩
  have hll : l.length = s.size := by rw [← hl, List.length_map]; rfl
  have HAT : Hid (∀ k (h : k < s.size), (s[k]'h).toNat = l.getD k 0) := Lib.hid (fun k h => by
    rw [← hl, List.getD_eq_getElem?_getD, List.getElem?_map, List.getElem?_eq_getElem (by exact h)]; rfl)
  have HLT : Hid (∀ k, l.getD k 0 < 256) := Lib.hid (fun k => by
    rw [List.getD_eq_getElem?_getD]
    cases h : l[k]? with
    | none => decide
    | some x =>
      have := List.mem_of_getElem? h
      rw [← hl] at this
      obtain ⟨y, _, rfl⟩ := List.mem_map.1 this
      exact y.toNat_lt)
  rw [hl]
  clear hl
  obtain ⟨N, hN⟩ : ∃ N, s.size = N := ⟨_, rfl⟩
  rw [hN] at hll hs
  have HLL := Lib.hid hll
  clear hll
  obtain ⟨i0, hi, hz0, hz1, hz2⟩ := info_parts infoC2z
  go_enter Tryz.func27, Tryz.ntmps27
  go_upto_region 2 with (at_make; refine wpList_make_own _ rfl _ _ _ rfl w.heap.size 86 i0 (.agg #[.int .i64 0, .int .i64 0]) 2 Tryz.underlying22 hi hz0 hz1 _ _ _ N rfl rfl rfl (by rw [hz2]; omega) (by unfold maxLen; omega) (Nat.le_refl _) ?_; intro w1 ho1 hg1)
  have HO1 : Hid (CelOwn w.heap.size (.slice (some ⟨w.heap.size, 0, none⟩) 0 N) ((l.take 0).map celOf) w w1) := Lib.hid ⟨ho1, (Below.refl _ _).grown hg1 (Nat.le_refl _) (fun j hj => by cases hj), hg1.size⟩
  have HK0 : Hid (okB (l.take 0) = true) := Lib.hid rfl
  clear ho1 hg1 hi hz0 hz1 hz2
  generalize (Value.slice (some ⟨w.heap.size, 0, none⟩) 0 N) = v1 at *
  go_wp2
  go_loopw [4, 12] (fun a i wr => ∃ k : Nat, i = .int .i64 (k : Int) ∧ k ≤ N ∧ Hid (okB (l.take k) = true) ∧ Hid (CelOwn w.heap.size a ((l.take k).map celOf) w wr)) (fun _ i _ => N - (intOf i).toNat)
  case atStart => exact ⟨0, rfl, by omega, HK0, HO1⟩
  case round =>
    obtain ⟨k, rfl, hk, hok, hown⟩ := hrel
    by_cases hkn : k < N
    · have hks : k < s.size := by omega
      have hat := HAT.out k hks
      have hb := HLT.out k
      have hts := take_snocV l k (by rw [HLL.out]; exact hkn)
      have HIN : Hid (l.getD k 0 / 64 = 2 → okB l = false) := Lib.hid (okB_in l k (by rw [HLL.out]; exact hkn))
      have HAL : Hid (l.getD k 0 / 64 ≠ 2 → okB (l.take (k + 1)) = true) := Lib.hid (fun h => by rw [hts]; exact okB_snoc _ _ hok.out h)
      have HST : Hid ((l.take (k + 1)).map celOf = (l.take k).map celOf ++ [celOf (l.getD k 0)]) := Lib.hid (by rw [hts, List.map_append]; rfl)
      have HLN : Hid (((l.take k).map celOf).length ≤ 1073741824) := Lib.hid (by rw [List.length_map, List.length_take]; omega)
      clear hts hok
      generalize l.getD k 0 = x at *
      have HCC := Lib.hid (fun W => cellOf_any x hb W)
      have hst := celOf_st x hb
      have HIS := Lib.hid (fun W => isState_any (celOf x).1 W)
      rw [hst] at HIS
      obtain ⟨wo, rfl⟩ : ∃ wo : World, wo = wr := ⟨_, rfl⟩
      obtain ⟨q, hq⟩ : ∃ q, celOf x = q := ⟨_, rfl⟩
      rw [hq] at HCC HIS HST
      obtain ⟨t, r⟩ := q
      simp only at HCC HIS
      clear hst hq
      go_upto_region 6 with (first
        | (go_at_call 89; refine (HCC.out _).mono ?_; rintro e W1 ⟨rfl, hb1⟩)
        | (refine store_c2 rfl _ _ rfl _ (0, 0) (t, r) rfl rfl (heap_alloc_new W1 _) ?_; intro W2 hc2 hg2))
      have hb2 : Below wo.heap.size wo W2 := bel_trans hb1 ((bel_alloc W1 _).grown hg2 (by simp) (fun j hj => by cases hj; exact Nat.le_refl _))
      have HO2 : Hid (CelOwn w.heap.size u4 ((l.take k).map celOf) w W2) := Lib.hid (hown.out.kept hb2)
      obtain ⟨C, hC⟩ : ∃ C, C = W1.heap.size := ⟨_, rfl⟩
      rw [← hC] at hc2 ⊢
      obtain ⟨x0, x1⟩ := hc2.cells
      simp only at x0 x1
      clear hb2 hg2 hc2 hC hown hb1 HCC hat
      by_cases h2 : x / 64 = 2
      · have HOK : Hid (okB l = false) := Lib.hid (HIN.out h2)
        have HG : Hid (getF l = []) := Lib.hid (by unfold getF; rw [HOK.out]; rfl)
        rw [show decide (x / 64 ≠ 2) = false from decide_eq_false (fun h => h h2)] at HIS
        go_wp2_with (go_at_call 88; (with_reducible refine (HIS.out _).mono ?_); rintro e W3 ⟨rfl, rfl⟩)
        go_ret2
        exact ⟨_, by rw [HOK.out]; rfl, by rw [HG.out]; exact ⟨World.ownsRow_nil _ _ _ _, HO2.out.2.1, HO2.out.2.2⟩⟩
      · have HAL2 := Lib.hid (HAL.out h2)
        rw [show decide (x / 64 ≠ 2) = true from decide_eq_true h2] at HIS
        go_upto_region 8 with (go_at_call 88; (with_reducible refine (HIS.out _).mono ?_); rintro e W3 ⟨rfl, rfl⟩)
        go_upto_region 9 with (at_builtin; refine wp_cel rfl _ _ rfl w.heap.size u4 ((l.take k).map celOf) rfl w W2 _ (t, r) rfl HO2.out _ rfl rfl HLN.out ?_; intro v2 w9 ho9)
        have HO9 : Hid (CelOwn w.heap.size v2 ((l.take (k + 1)).map celOf) w w9) := Lib.hid (by rw [HST.out]; exact ho9)
        clear ho9 x0 x1 HO2
        go_wp2
        refine ⟨⟨k + 1, by go_num, by omega, HAL2, HO9⟩, ?_⟩
        simp [intOf]; omega
    · obtain rfl : k = N := by omega
      have htk : l.take k = l := List.take_of_length_le (by rw [HLL.out]; exact Nat.le_refl _)
      rw [htk] at hok hown
      have HG : Hid (getF l = l.map celOf) := Lib.hid (by unfold getF; rw [hok.out]; rfl)
      clear htk
      go_wp2
      go_ret2
      exact ⟨_, by rw [hok.out]; rfl, by rw [HG.out]; exact hown.out⟩
end Go.Proofs.YtnffdacajdjeoaaGreatDoor

namespace Go.Proofs.YtnffdacajdjeoaaGreatDoor
open Go.ChangeShapes Go.WideShapes Go.ChangeAt Go.RowKit
set_option linter.unusedVariables false
set_option linter.unusedSimpArgs false

set_option maxHeartbeats 4000000 in
theorem refGetV_any (s : ByteArray) (hs : s.size ≤ 1073741824) (w : World) :
    Calls Tryz.prog 28 #[.string s] w fun e w' => ∃ v', e = .returned (.tuple #[v', .bool (okB (s.data.toList.map UInt8.toNat))]) ∧ CelOwn w.heap.size v' (getF (s.data.toList.map UInt8.toNat)) w w' := by
  obtain ⟨l, hl⟩ : ∃ l, s.data.toList.map UInt8.toNat = l := ⟨_, rfl⟩
  have hll : l.length = s.size := by rw [← hl, List.length_map]; rfl
  have HAT : Hid (∀ k (h : k < s.size), (s[k]'h).toNat = l.getD k 0) := Lib.hid (fun k h => by
    rw [← hl, List.getD_eq_getElem?_getD, List.getElem?_map, List.getElem?_eq_getElem (by exact h)]; rfl)
  have HLT : Hid (∀ k, l.getD k 0 < 256) := Lib.hid (fun k => by
    rw [List.getD_eq_getElem?_getD]
    cases h : l[k]? with
    | none => decide
    | some x =>
      have := List.mem_of_getElem? h
      rw [← hl] at this
      obtain ⟨y, _, rfl⟩ := List.mem_map.1 this
      exact y.toNat_lt)
  rw [hl]
  clear hl
  obtain ⟨N, hN⟩ : ∃ N, s.size = N := ⟨_, rfl⟩
  rw [hN] at hll hs
  have HLL := Lib.hid hll
  clear hll
  have HO1 := Lib.hid (CelOwn.nil w)
  have HK0 : Hid (okB (l.take 0) = true) := Lib.hid rfl
  go_enter Tryz.func28, Tryz.ntmps28
  go_wp2
  go_loopw [4, 5] (fun a i wr => ∃ k : Nat, i = .int .i64 (k : Int) ∧ k ≤ N ∧ Hid (okB (l.take k) = true) ∧ Hid (CelOwn w.heap.size a ((l.take k).map celOf) w wr)) (fun _ i _ => N - (intOf i).toNat)
  case atStart => exact ⟨0, rfl, by omega, HK0, HO1⟩
  case round =>
    obtain ⟨k, rfl, hk, hok, hown⟩ := hrel
    by_cases hkn : k < N
    · have hks : k < s.size := by omega
      have hat := HAT.out k hks
      have hb := HLT.out k
      have hts := take_snocV l k (by rw [HLL.out]; exact hkn)
      have HIN : Hid (l.getD k 0 / 64 = 2 → okB l = false) := Lib.hid (okB_in l k (by rw [HLL.out]; exact hkn))
      have HAL : Hid (l.getD k 0 / 64 ≠ 2 → okB (l.take (k + 1)) = true) := Lib.hid (fun h => by rw [hts]; exact okB_snoc _ _ hok.out h)
      have HST : Hid ((l.take (k + 1)).map celOf = (l.take k).map celOf ++ [celOf (l.getD k 0)]) := Lib.hid (by rw [hts, List.map_append]; rfl)
      have HLN : Hid (((l.take k).map celOf).length ≤ 1073741824) := Lib.hid (by rw [List.length_map, List.length_take]; omega)
      clear hts hok
      generalize l.getD k 0 = x at *
      obtain ⟨wo, rfl⟩ : ∃ wo : World, wo = wr := ⟨_, rfl⟩
      go_upto_region 5 with fail
      go_region
      have hq : celOf x = ((x : Int) / 64, (x : Int) % 64 + 1) := by unfold celOf; simp
      have hd : ((x : Int) / 64 == 2) = decide (x / 64 = 2) := by
        rw [Bool.eq_iff_iff, beq_iff_eq, decide_eq_true_iff]; omega
      rw [hq] at HST
      generalize hr : (x : Int) % 64 + 1 = r at *
      generalize (x : Int) % 64 = r0 at *
      generalize (x : Int) / 64 = t at *
      obtain ⟨C, hC⟩ : ∃ C, C = wo.heap.size := ⟨_, rfl⟩
      have hc2 : C2Blk (t, r) C (wo.alloc (.cells #[.int .i64 t, .int .i64 r] 86)).drew := by rw [hC]; exact heap_alloc_new wo _
      have HO2 : Hid (CelOwn w.heap.size u4 ((l.take k).map celOf) w (wo.alloc (.cells #[.int .i64 t, .int .i64 r] 86)).drew) := Lib.hid (hown.out.kept (bel_trans (bel_alloc wo _) ⟨rfl, rfl, rfl, Nat.le_refl _, fun _ _ => rfl⟩))
      rw [← hC]
      generalize (wo.alloc (.cells #[.int .i64 t, .int .i64 r] 86)).drew = W2 at *
      obtain ⟨x0, x1⟩ := hc2.cells
      simp only at x0 x1
      clear hc2 hC hown hat hr hq
      by_cases h2 : x / 64 = 2
      · have HOK : Hid (okB l = false) := Lib.hid (HIN.out h2)
        have HG : Hid (getF l = []) := Lib.hid (by unfold getF; rw [HOK.out]; rfl)
        rw [decide_eq_true h2] at hd
        go_wp2
        go_ret2
        exact ⟨_, by rw [HOK.out]; rfl, by rw [HG.out]; exact ⟨World.ownsRow_nil _ _ _ _, HO2.out.2.1, HO2.out.2.2⟩⟩
      · have HAL2 := Lib.hid (HAL.out h2)
        rw [decide_eq_false h2] at hd
        go_upto_region 4 with (at_builtin; refine wp_cel rfl _ _ rfl w.heap.size u4 ((l.take k).map celOf) rfl w W2 _ (t, r) rfl HO2.out _ rfl rfl HLN.out ?_; intro v2 w9 ho9)
        have HO9 : Hid (CelOwn w.heap.size v2 ((l.take (k + 1)).map celOf) w w9) := Lib.hid (by rw [HST.out]; exact ho9)
        clear ho9 x0 x1 HO2
        go_wp2
        refine ⟨⟨k + 1, by go_num, by omega, HAL2, HO9⟩, ?_⟩
        simp [intOf]; omega
    · obtain rfl : k = N := by omega
      have htk : l.take k = l := List.take_of_length_le (by rw [HLL.out]; exact Nat.le_refl _)
      rw [htk] at hok hown
      have HG : Hid (getF l = l.map celOf) := Lib.hid (by unfold getF; rw [hok.out]; rfl)
      clear htk
      go_wp2
      go_ret2
      exact ⟨_, by rw [hok.out]; rfl, by rw [HG.out]; exact hown.out⟩
end Go.Proofs.YtnffdacajdjeoaaGreatDoor

namespace Go.Proofs.YtnffdacajdjeoaaGreatDoor
open Go.ChangeShapes Go.WideShapes Go.ChangeAt Go.RowKit
set_option linter.unusedVariables false
set_option linter.unusedSimpArgs false

/-- The byte that a cell is. -/
def celByte (c : Cel) : UInt8 := UInt8.ofNat (c.1.toNat * 64 + (c.2.toNat - 1))
theorem bs_set (l : List Cel) (N k : Nat) (hN : l.length = N) (hk : k < N) : ((l.take k).map celByte ++ List.replicate (N - k) (0 : UInt8)).set k (celByte (l.getD k (0, 0))) = (l.take (k + 1)).map celByte ++ List.replicate (N - (k + 1)) 0 := by
  have h1 : ((l.take k).map celByte).length = k := by rw [List.length_map, List.length_take]; omega
  rw [List.set_append_right _ _ (by omega), h1, Nat.sub_self, show N - k = (N - (k + 1)) + 1 by omega, List.replicate_succ, List.set_cons_zero, take_snocC l k (by omega), List.map_append, List.append_assoc]
  rfl
theorem or_low : ∀ n : Nat, n < 64 → bits .or .i64 0 (n : Int) = (n : Int) ∧ bits .or .i64 64 (n : Int) = ((64 + n : Nat) : Int) ∧ bits .or .i64 192 (n : Int) = ((192 + n : Nat) : Int) := by decide
theorem cel_or (s r : Int) (hs : s = 0 ∨ s = 1 ∨ s = 3) (h1 : 1 ≤ r) (h2 : r ≤ 64) : ∃ X, bits .or .i64 (s * 64) (r - 1) = X ∧ X % 256 = ((celByte (s, r)).toNat : Int) := by
  obtain ⟨n, rfl⟩ : ∃ n : Nat, r = n + 1 := ⟨(r - 1).toNat, by omega⟩
  have hn : n < 64 := by omega
  obtain ⟨e0, e1, e3⟩ := or_low n hn
  rw [show (n : Int) + 1 - 1 = (n : Int) by omega]
  have hb : ((celByte (s, (n : Int) + 1)).toNat : Int) = ((s.toNat * 64 + n : Nat) : Int) := by
    unfold celByte
    have : s.toNat * 64 + (((n : Int) + 1).toNat - 1) = s.toNat * 64 + n := by omega
    simp only [this]
    rw [UInt8.toNat_ofNat', Nat.mod_eq_of_lt (by rcases hs with rfl | rfl | rfl <;> simp <;> omega)]
  refine ⟨_, rfl, ?_⟩
  rw [hb]
  rcases hs with rfl | rfl | rfl
  · rw [show (0 : Int) * 64 = 0 from rfl, e0]; simp; omega
  · rw [show (1 : Int) * 64 = 64 from rfl, e1]; simp; omega
  · rw [show (3 : Int) * 64 = 192 from rfl, e3]; simp; omega
set_option maxHeartbeats 4000000 in
set_option maxRecDepth 100000 in
theorem vecText_any (v : Value) (l : List Cel) (w : World) (hv : C2At w v l) (hl : l.length ≤ 1000000) (hcel : ∀ i, i < l.length → celB (l.getD i (0, 0)) = true) :
    Calls Tryz.prog 86 #[v] w fun e w' => e = .returned (.string (str (l.map celByte))) ∧ Below w.heap.size w w' := by
  obtain ⟨p, cap, rfl, _, _, hc⟩ := hv.at_
  have HCEL := Lib.hid hcel
  have HC := Lib.hid hc
  obtain ⟨N, hN⟩ : ∃ N, l.length = N := ⟨_, rfl⟩
  have HN := Lib.hid hN
  rw [hN] at HC HCEL hl ⊢
  clear hc hv hcel hN
  go_enter Tryz.func86, Tryz.ntmps86
  go_upto_region 2 with (at_make; refine wp_row rfl _ _ rfl _ _ _ _ N rfl rfl rfl hl ?_; rintro w1 _ rfl hgl hb1 hr1)
  have HR1 : Hid (rowAt w1 w.heap.size N ((l.take 0).map celByte ++ List.replicate (N - 0) 0)) := Lib.hid (by simpa using hr1)
  have HB1 := Lib.hid hb1
  clear hr1 hb1 hgl
  go_wp2
  go_loopw [11] (fun i wr => ∃ k : Nat, i = .int .i64 (k : Int) ∧ k ≤ N ∧ Hid (Below w.heap.size w wr) ∧ Hid (rowAt wr w.heap.size N ((l.take k).map celByte ++ List.replicate (N - k) 0))) (fun i _ => N - (intOf i).toNat)
  case atStart => exact ⟨0, rfl, by omega, HB1, HR1⟩
  case round =>
    obtain ⟨k, rfl, hk, hbr, hrow⟩ := hrel
    by_cases hkn : k < N
    · obtain ⟨b, o, rfl, hlt, c0, c1⟩ := HC.out k hkn
      rw [← hbr.out.cell (p := ⟨b, o + k * 2, none⟩) hlt] at c0
      rw [← hbr.out.cell (p := ⟨b, o + k * 2 + 1, none⟩) hlt] at c1
      have hcb := HCEL.out k hkn
      have HST := Lib.hid (bs_set l N k HN.out hkn)
      generalize l.getD k (0, 0) = c at *
      obtain ⟨s, r⟩ := c
      simp only at c0 c1
      obtain ⟨hs, hr1, hr2⟩ := celB_run hcb
      simp only at hs hr1 hr2
      obtain ⟨wo, rfl⟩ : ∃ wo : World, wo = wr := ⟨_, rfl⟩
      clear hcb hlt
      have hrl := row_lt hrow.out
      go_upto_region 5 with (refine store_c2 rfl _ _ rfl _ (0, 0) (s, r) rfl rfl (heap_alloc_new wo _) ?_; intro W2 hc2 hg2)
      have hb2 : Below wo.heap.size wo W2 := (bel_alloc wo _).grown hg2 (by simp) (fun j hj => by cases hj; exact Nat.le_refl _)
      have HB2 : Hid (Below w.heap.size w W2) := Lib.hid (bel_trans hbr.out hb2)
      have HR2 : Hid (rowAt W2 w.heap.size N ((l.take k).map celByte ++ List.replicate (N - k) 0)) := Lib.hid (row_grown (row_alloc hrow.out _) hg2 (by intro h; injection h with h; omega))
      have hlen : k < ((l.take k).map celByte ++ List.replicate (N - k) (0 : UInt8)).length := by rw [List.length_append, List.length_map, List.length_take, List.length_replicate, HN.out]; omega
      have hcell := row_cell HR2.out k hlen
      have hfree := row_free HR2.out k
      unfold byteV at hcell
      obtain ⟨C, hC⟩ : ∃ C, C = wo.heap.size := ⟨_, rfl⟩
      rw [← hC] at hc2 ⊢
      obtain ⟨x0, x1⟩ := hc2.cells
      simp only at x0 x1
      clear hb2 hg2 hc2 hC c0 c1 hrow hbr hrl
      have hs3 : s = 0 ∨ s = 1 ∨ s = 3 := by
        rcases st_cases s with h | h | h | ⟨_, _, _, hb⟩
        · exact .inl h
        · exact .inr (.inl h)
        · exact .inr (.inr h)
        · rw [hb] at hs; cases hs
      obtain ⟨X, hX, hX2⟩ := cel_or s r hs3 hr1 hr2
      clear hs
      obtain ⟨B, hB⟩ : ∃ B, celByte (s, r) = B := ⟨_, rfl⟩
      rw [hB] at hX2 HST
      clear hB
      have HSET := Lib.hid (row_set HR2.out k B _ rfl hlen)
      rw [HST.out] at HSET
      have HBS : Hid (Below w.heap.size w (W2.setCell ⟨w.heap.size, k, none⟩ (.int .u8 (B.toNat : Int)))) := Lib.hid (HB2.out.setCell (p := ⟨w.heap.size, k, none⟩) (Nat.le_refl _) _)
      have hwl : w.heap.size < W2.heap.size := row_lt HR2.out
      clear HR2 HB2
      rcases hs3 with rfl | rfl | rfl
      all_goals
        simp only [Int.zero_mul, Int.one_mul, show (3 : Int) * 64 = 192 from rfl] at hX
        go_upto_region 6 with fail
        clear x0 x1 hcell hfree hX hX2 hlen
        generalize W2.setCell ⟨w.heap.size, k, none⟩ (.int .u8 (B.toNat : Int)) = w9 at *
        go_wp2
        refine ⟨⟨k + 1, by go_num, by omega, HBS, HSET⟩, ?_⟩
        simp [intOf]; omega
    · obtain rfl : k = N := by omega
      have hr2 := hrow.out
      rw [Nat.sub_self, List.replicate_zero, List.append_nil, List.take_of_length_le (show l.length ≤ k by rw [HN.out]; exact Nat.le_refl _)] at hr2
      have hcv := convert_row hr2
      rw [List.length_map, HN.out] at hcv
      clear hr2
      go_wp2
      go_ret
      exact ⟨rfl, hbr.out⟩
end Go.Proofs.YtnffdacajdjeoaaGreatDoor

namespace Go.Proofs.YtnffdacajdjeoaaGreatDoor
open Go.ChangeShapes Go.WideShapes Go.ChangeAt Go.RowKit
set_option linter.unusedVariables false
set_option linter.unusedSimpArgs false

theorem infoSt : (Tryz.prog.info? 9).map (fun i => (i.zero, i.size, i.bytes)) = some (some (.string ⟨#[]⟩), 1, 16) := by kernel_rfl
def stV (s : List UInt8) : Value := .string (str s)
/-- A row of texts that the call owns from block B on; below B nothing has turned since W0. -/
def StOwn (B : Nat) (v : Value) (l : List (List UInt8)) (W0 w : World) : Prop := w.ownsRow B 9 1 v l.length (l.map stV) ∧ Below B W0 w ∧ B ≤ w.heap.size
theorem StOwn.nil (w : World) : StOwn w.heap.size (.slice none 0 0) [] w w := ⟨World.ownsRow_nil _ _ _ _, Below.refl _ _, Nat.le_refl _⟩
theorem StOwn.kept {B : Nat} {v : Value} {l : List (List UInt8)} {W0 w w' : World} (h : StOwn B v l W0 w) (hb : Below w.heap.size w w') : StOwn B v l W0 w' := by
  refine ⟨h.1.kept (row := none) ⟨hb.os, hb.tape, hb.output, hb.size, fun k hk _ => hb.block k hk⟩ ?_, h.2.1.trans (hb.mono h.2.2), Nat.le_trans h.2.2 hb.size⟩
  cases v.ownBlock <;> simp
/-- A row that is not empty, text by text. -/
theorem StOwn.shape {B : Nat} {v : Value} {l : List (List UInt8)} {W0 w : World} (h : StOwn B v l W0 w) (hne : 0 < l.length) : ∃ g c, v = .slice (some ⟨g, 0, none⟩) l.length c ∧ l.length ≤ c ∧ c ≤ 9223372036854775807 ∧ B ≤ g ∧ g < w.heap.size ∧
    (∀ i, i < l.length → w.cell? ⟨g, i, none⟩ = some (.string (str (l.getD i [])))) ∧ ∀ i, w.frozen? ⟨g, i, none⟩ = false := by
  rcases h.1.2 with ⟨rfl, h0⟩ | ⟨g, cap, cur, rfl, hB, hg, hcap, hcm, _, ht⟩
  · omega
  · have hlt : g < w.heap.size := by
      rcases Nat.lt_or_ge g w.heap.size with hlt | hge
      · exact hlt
      · rw [Array.getElem?_eq_none hge] at hg; cases hg
    refine ⟨g, cap, rfl, hcap, by unfold maxLen at hcm; omega, hB, hlt, fun i hi => ?_, fun i => frozen_of_row w g i _ _ hg⟩
    rw [cell_of_row w g i cur _ _ hg, ← Array.getElem?_toList]
    have h2 : (l.map stV)[i]? = some (.string (str (l.getD i []))) := by
      rw [List.getElem?_map, List.getElem?_eq_getElem hi, List.getD_eq_getElem?_getD, List.getElem?_eq_getElem hi]; rfl
    rw [← ht, List.getElem?_take_of_lt (by omega)] at h2
    exact h2
theorem StOwn.len {B : Nat} {v : Value} {l : List (List UInt8)} {W0 w : World} (h : StOwn B v l W0 w) : ∃ p c, v = .slice p l.length c := by
  rcases h.1.2 with ⟨rfl, h0⟩ | ⟨g, cap, cur, rfl, _⟩
  · exact ⟨none, 0, by rw [h0]⟩
  · exact ⟨_, cap, rfl⟩
/-- The last one is written anew. -/
theorem StOwn.setLast {B g cap : Nat} {l : List (List UInt8)} {s : List UInt8} {W0 w : World} (h : StOwn B (.slice (some ⟨g, 0, none⟩) (l.length + 1) cap) (l ++ [s]) W0 w) (r : List UInt8) :
    StOwn B (.slice (some ⟨g, 0, none⟩) (l.length + 1) cap) (l ++ [r]) W0 (w.setCell ⟨g, l.length, none⟩ (.string (str r))) := by
  obtain ⟨h1, h2, h3⟩ := h
  rcases h1.2 with ⟨e, _⟩ | ⟨g', cap', cur, e, hB, hg, hcap, hcm, hsz, ht⟩
  · cases e
  · injection e with e1 _ e2
    injection e1 with e1
    injection e1 with e1 _ _
    subst e1 e2
    refine ⟨⟨by simp, .inr ⟨g, cap, cur.setIfInBounds l.length (.string (str r)), by rw [List.length_append]; rfl, hB, heap_setCell_same w g _ _ _ _ hg, by rw [List.length_append] at hcap ⊢; exact hcap, hcm, by rw [Array.size_setIfInBounds]; exact hsz, ?_⟩⟩, h2.setCell (p := ⟨g, l.length, none⟩) hB _, by simpa using h3⟩
    rw [Array.toList_setIfInBounds, List.take_set]
    have hl : (l ++ [s]).length = (l ++ [r]).length := by simp
    rw [← hl, ht, List.map_append, List.map_append, List.set_append_right _ _ (by simp), List.length_map, Nat.sub_self]
    rfl
/-- One text appended. -/
theorem wp_st {ops : Array Oper} {rest : List Oper} {o : Oper} {a : Act} {Q : Exit → Act → World → Prop} (hgd : o.guard = none) (s x : Operand)
    (ho : o.op = .call { callee := .builtin .append, args := #[s, x], argTypes := #[27, 27] })
    (B : Nat) (v : Value) (l : List (List UInt8)) (hs : a.eval s = v) (W0 w0 w1 : World) (c : List UInt8) (hw : w1 = w0.alloc (.cells #[.string (str c)] 9)) (hb : StOwn B v l W0 w0) (H : Nat) (hH : w0.heap.size = H)
    (hx : a.eval x = .slice (some ⟨H, 0, none⟩) 1 1) (hlen : l.length ≤ 1073741824)
    (h : ∀ v' w', StOwn B v' (l ++ [c]) W0 w' → wpList Tryz.prog ops Q rest (a.put o.dst v') w') : wpList Tryz.prog ops Q (o :: rest) a w1 := by
  obtain ⟨i0, hi, hz0, hz1, hz2⟩ := info_parts infoSt
  subst hH hw
  have hb' := hb.kept (bel_alloc w0 (.cells #[.string (str c)] 9))
  refine wpList_append_own _ hgd s x 27 ho B 9 i0 (.string ⟨#[]⟩) 1 16 Tryz.underlying27 hi hz0 hz1 hz2 rfl (by decide) v l.length (l.map stV) hs hb'.1 ⟨w0.heap.size, 0, none⟩ 1 1 [.string (str c)] hx rfl (fun j u hu => ?_) (by intro u hu; simp at hu; rcases hu with rfl | rfl <;> rfl) (by unfold maxLen; omega) (by omega) hb'.2.2 ?_
  · have hadd : (⟨w0.heap.size, 0, none⟩ : Addr).add j = ⟨w0.heap.size, j, none⟩ := by unfold Addr.add; split <;> simp_all
    rw [hadd, cell_of_row _ _ _ _ _ _ (heap_alloc_new w0 (.cells #[.string (str c)] 9))]
    simpa using hu
  · intro v' w' ho' hg _
    refine h v' w' ⟨?_, hb'.2.1.grown hg hb'.2.2 (fun k hk => (hb'.1.lt k hk).1), Nat.le_trans hb'.2.2 hg.size⟩
    rw [List.length_append, List.map_append]
    exact ho'
end Go.Proofs.YtnffdacajdjeoaaGreatDoor

namespace Go.Proofs.YtnffdacajdjeoaaGreatDoor
open Go.ChangeShapes Go.WideShapes Go.ChangeAt Go.RowKit
set_option linter.unusedVariables false
set_option linter.unusedSimpArgs false

/-- The texts of the first k cells. -/
def vecK (l : List Cel) : Nat → List (List UInt8)
  | 0 => []
  | k + 1 => if k % 253 = 0 then vecK l k ++ [[celByte (l.getD k (0, 0))]] else (vecK l k).dropLast ++ [(vecK l k).getLastD [] ++ [celByte (l.getD k (0, 0))]]
def vecR (l : List Cel) : List (List UInt8) := if mayF 0 l = true then vecK l l.length else []
theorem vecK_ne (l : List Cel) (k : Nat) (h : 0 < k) : vecK l k ≠ [] := by
  cases k with
  | zero => omega
  | succ k => unfold vecK; split <;> simp
theorem vecK_len (l : List Cel) (k : Nat) : (vecK l k).length ≤ k := by
  induction k with
  | zero => simp [vecK]
  | succ k ih =>
    unfold vecK
    split
    · simp; omega
    · simp; omega
theorem vecK_last (l : List Cel) (k : Nat) : ((vecK l k).getLastD []).length ≤ k := by
  induction k with
  | zero => simp [vecK]
  | succ k ih =>
    unfold vecK
    split
    · rw [List.getLastD_concat]; simp
    · rw [List.getLastD_concat, List.length_append, List.length_singleton]; omega
theorem bel_drew1 (w : World) : Below w.heap.size w w.drew := ⟨rfl, rfl, rfl, Nat.le_refl _, fun _ _ => rfl⟩
theorem conv_one (W : World) (B : UInt8) (c : Int) (hc : c = (B.toNat : Int)) : (convert 106 9 (.slice (some ⟨W.heap.size, 0, none⟩) 1 1)).run Tryz.prog (W.alloc (.cells #[.int .u8 c] 5)).drew = .ok (.string (str [B])) (W.alloc (.cells #[.int .u8 c] 5)).drew := by
  subst hc
  refine run_convert_bytes_back _ 106 9 5 ⟨W.heap.size, 0, none⟩ 1 [B] Tryz.underlying106 Tryz.underlying5 Tryz.underlying9 (fun j hj => ?_)
  have : j = 0 := by simp at hj; omega
  subst this
  rw [show (⟨W.heap.size, 0, none⟩ : Addr).add 0 = ⟨W.heap.size, 0, none⟩ from by simp [Addr.add]]
  have e : (W.alloc (.cells #[.int .u8 (B.toNat : Int)] 5)).drew.cell? ⟨W.heap.size, 0, none⟩ = (W.alloc (.cells #[.int .u8 (B.toNat : Int)] 5)).cell? ⟨W.heap.size, 0, none⟩ := rfl
  rw [e, cell_of_row _ _ _ _ _ _ (heap_alloc_new W _)]
  rfl
theorem cel_num (s r : Int) (hs : s = 0 ∨ s = 1 ∨ s = 3) (h1 : 1 ≤ r) (h2 : r ≤ 64) : s * 64 + r - 1 = ((celByte (s, r)).toNat : Int) := by
  unfold celByte
  rw [UInt8.toNat_ofNat']
  rcases hs with rfl | rfl | rfl <;> simp <;> omega
set_option maxHeartbeats 8000000 in
set_option maxRecDepth 100000 in
theorem refVector_any (v : Value) (l : List Cel) (w : World) (hv : C2At w v l) (hl : l.length ≤ 1000000) :
    Calls Tryz.prog 22 #[v] w fun e w' => ∃ v', e = .returned v' ∧ StOwn w.heap.size v' (vecR l) w w' := by
  have HM := Lib.hid (refMay8_any v l w hv)
  obtain ⟨p, cap, rfl, _, _, hc⟩ := hv.at_
  cases hmf : mayF 0 l with
  | false =>
    rw [hmf] at HM
    have HR : Hid (vecR l = []) := Lib.hid (by unfold vecR; rw [hmf]; rfl)
    clear hmf hc hv
    generalize l.length = N at *
    go_enter Tryz.func22, Tryz.ntmps22
    go_wp2_with (go_at_call 20; (with_reducible refine HM.out.mono ?_); rintro e w1 ⟨rfl, rfl⟩)
    go_ret
    exact ⟨_, rfl, by rw [HR.out]; exact StOwn.nil w1⟩
  | true =>
    rw [hmf] at HM
    have HR : Hid (vecR l = vecK l l.length) := Lib.hid (by unfold vecR; rw [hmf]; rfl)
    have HALL := Lib.hid (mayF_all l 0 hmf)
    have HC := Lib.hid hc
    obtain ⟨N, hN⟩ : ∃ N, l.length = N := ⟨_, rfl⟩
    have HN := Lib.hid hN
    rw [hN] at HC HM hl HR ⊢
    clear hc hv hN hmf
    have HNIL := Lib.hid (StOwn.nil w)
    go_enter Tryz.func22, Tryz.ntmps22
    go_wp2_with (go_at_call 20; (with_reducible refine HM.out.mono ?_); rintro e w1 ⟨rfl, rfl⟩)
    clear HM
    go_loopw [3, 4] (fun a i wr => ∃ k : Nat, i = .int .i64 (k : Int) ∧ k ≤ N ∧ Hid (StOwn w1.heap.size a (vecK l k) w1 wr)) (fun _ i _ => N - (intOf i).toNat)
    case atStart => exact ⟨0, rfl, by omega, HNIL⟩
    case round =>
      obtain ⟨k, rfl, hk, hown⟩ := hrel
      by_cases hkn : k < N
      · have hcb := celB_run (HALL.out k (by rw [HN.out]; exact hkn))
        obtain ⟨hs, hr1, hr2⟩ := hcb
        have HKL := Lib.hid (vecK_len l k)
        have hs3 : (l.getD k (0, 0)).1 = 0 ∨ (l.getD k (0, 0)).1 = 1 ∨ (l.getD k (0, 0)).1 = 3 := by
          rcases st_cases (l.getD k (0, 0)).1 with h | h | h | ⟨_, _, _, hb⟩
          · exact .inl h
          · exact .inr (.inl h)
          · exact .inr (.inr h)
          · rw [hb] at hs; cases hs
        have hX := cel_num _ _ hs3 hr1 hr2
        obtain ⟨b, o, rfl, hlt, c0, c1⟩ := HC.out k hkn
        by_cases hk0 : k % 253 = 0
        · have HNX : Hid (vecK l (k + 1) = vecK l k ++ [[celByte ((l.getD k (0, 0)).1, (l.getD k (0, 0)).2)]]) := Lib.hid (by rw [vecK, if_pos hk0])
          generalize celByte ((l.getD k (0, 0)).1, (l.getD k (0, 0)).2) = B at *
          generalize (l.getD k (0, 0)).1 = s at *
          generalize (l.getD k (0, 0)).2 = r at *
          obtain ⟨wo, rfl⟩ : ∃ wo : World, wo = wr := ⟨_, rfl⟩
          have hd : ((k : Int) % 253 == 0) = true := by rw [beq_iff_eq]; omega
          go_upto_region 9 with (at_builtin; refine wp_st rfl _ _ rfl w1.heap.size u3 (vecK l k) rfl w1 wo _ [] rfl hown.out _ rfl rfl (by have := HKL.out; omega) ?_; intro v2 w9 ho9)
          rw [← ho9.2.1.cell (p := ⟨b, o + k * 2, none⟩) hlt] at c0
          rw [← ho9.2.1.cell (p := ⟨b, o + k * 2 + 1, none⟩) hlt] at c1
          obtain ⟨g, cp, rfl, hgc, hgm, hgB, hglt, hcell, hfr⟩ := ho9.shape (by simp)
          have hx := hcell (vecK l k).length (by simp)
          rw [show (vecK l k ++ [([] : List UInt8)]).getD (vecK l k).length [] = [] by simp] at hx
          have hf := hfr (vecK l k).length
          have HO9 := Lib.hid ho9
          have hML := HKL.out
          rw [show (vecK l k ++ [([] : List UInt8)]).length = (vecK l k).length + 1 by simp] at HO9 hgc ⊢
          have HSL : Hid (∀ q, StOwn w1.heap.size (.slice (some ⟨g, 0, none⟩) ((vecK l k).length + 1) cp) (vecK l k ++ [q]) w1 (w9.setCell ⟨g, (vecK l k).length, none⟩ (.string (str q)))) := Lib.hid (fun q => StOwn.setLast HO9.out q)
          clear ho9 hcell hfr hown hlt hd HKL HO9
          generalize (vecK l k).length = M at *
          have hcv := fun W => conv_one W B (s * 64 + r - 1) hX
          have hz1 : (str ([] : List UInt8)).size = 0 := rfl
          have hz2 : (str [B]).size = 1 := rfl
          clear hX
          go_region
          have HF : Hid (StOwn w1.heap.size (.slice (some ⟨g, 0, none⟩) (M + 1) cp) (vecK l (k + 1)) w1 ((w9.setCell ⟨g, M, none⟩ (.string (str [] ++ str [B]))).alloc (.cells #[.int .u8 (s * 64 + r - 1)] 5)).drew) := Lib.hid (by
            rw [HNX.out, str_append]
            exact (HSL.out ([] ++ [B])).kept (bel_trans (bel_alloc _ _) (bel_drew1 _)))
          clear c0 c1 hx hf hcv hz1 hz2 HSL
          generalize ((w9.setCell ⟨g, M, none⟩ (.string (str [] ++ str [B]))).alloc (.cells #[.int .u8 (s * 64 + r - 1)] 5)).drew = wz at *
          go_wp2
          refine ⟨⟨k + 1, by go_num, by omega, HF⟩, ?_⟩
          simp [intOf]; omega
        · have hk1 : 0 < k := by
            rcases Nat.eq_zero_or_pos k with h | h
            · exact absurd (by rw [h]) hk0
            · exact h
          have hlast := vecK_last l k
          rcases List.eq_nil_or_concat (vecK l k) with hnil | ⟨m, s0, hms⟩
          · exact absurd hnil (vecK_ne l k hk1)
          · rw [List.concat_eq_append] at hms
            have HNX : Hid (vecK l (k + 1) = m ++ [s0 ++ [celByte ((l.getD k (0, 0)).1, (l.getD k (0, 0)).2)]]) := Lib.hid (by rw [vecK, if_neg hk0, hms, List.dropLast_concat, List.getLastD_concat])
            rw [hms, List.getLastD_concat] at hlast
            rw [hms] at hown HKL
            clear hms
            generalize celByte ((l.getD k (0, 0)).1, (l.getD k (0, 0)).2) = B at *
            generalize (l.getD k (0, 0)).1 = s at *
            generalize (l.getD k (0, 0)).2 = r at *
            have hd : ((k : Int) % 253 == 0) = false := by rw [beq_eq_false_iff_ne]; omega
            have ho9 := hown.out
            rw [← ho9.2.1.cell (p := ⟨b, o + k * 2, none⟩) hlt] at c0
            rw [← ho9.2.1.cell (p := ⟨b, o + k * 2 + 1, none⟩) hlt] at c1
            obtain ⟨g, cp, rfl, hgc, hgm, hgB, hglt, hcell, hfr⟩ := ho9.shape (by simp)
            have hx := hcell m.length (by simp)
            rw [show (m ++ [s0]).getD m.length [] = s0 by simp] at hx
            have hf := hfr m.length
            have HO9 := Lib.hid ho9
            have hML := HKL.out
            rw [show (m ++ [s0]).length = m.length + 1 by simp] at HO9 hgc hML ⊢
            have HSL : Hid (∀ q, StOwn w1.heap.size (.slice (some ⟨g, 0, none⟩) (m.length + 1) cp) (m ++ [q]) w1 (wr.setCell ⟨g, m.length, none⟩ (.string (str q)))) := Lib.hid (fun q => StOwn.setLast HO9.out q)
            clear ho9 hcell hfr hown hlt HKL HO9
            generalize m.length = M at *
            have hcv := fun W => conv_one W B (s * 64 + r - 1) hX
            obtain ⟨Z, hZ⟩ : ∃ Z, s0.length = Z := ⟨_, rfl⟩
            have hz1 : (str s0).size = Z := hZ
            have hz2 : (str [B]).size = 1 := rfl
            rw [hZ] at hlast
            clear hX hZ
            obtain ⟨w9, rfl⟩ : ∃ w9 : World, w9 = wr := ⟨_, rfl⟩
            go_upto_region 9 with fail
            clear hd
            go_region
            have HF : Hid (StOwn w1.heap.size (.slice (some ⟨g, 0, none⟩) (M + 1) cp) (vecK l (k + 1)) w1 ((w9.setCell ⟨g, M, none⟩ (.string (str s0 ++ str [B]))).alloc (.cells #[.int .u8 (s * 64 + r - 1)] 5)).drew) := Lib.hid (by
              rw [HNX.out, str_append]
              exact (HSL.out (s0 ++ [B])).kept (bel_trans (bel_alloc _ _) (bel_drew1 _)))
            clear c0 c1 hx hf hcv hz1 hz2 HSL
            generalize ((w9.setCell ⟨g, M, none⟩ (.string (str s0 ++ str [B]))).alloc (.cells #[.int .u8 (s * 64 + r - 1)] 5)).drew = wz at *
            go_wp2
            refine ⟨⟨k + 1, by go_num, by omega, HF⟩, ?_⟩
            simp [intOf]; omega
      · obtain rfl : k = N := by omega
        go_wp2
        go_ret
        exact ⟨_, rfl, by rw [HR.out]; exact hown.out⟩
end Go.Proofs.YtnffdacajdjeoaaGreatDoor

namespace Go.Proofs.YtnffdacajdjeoaaGreatDoor
open Go.ChangeShapes Go.WideShapes Go.ChangeAt Go.RowKit
set_option linter.unusedVariables false
set_option linter.unusedSimpArgs false

theorem celByte_back (c : Cel) (h : celB c = true) : celOf (celByte c).toNat = c ∧ (celByte c).toNat / 64 ≠ 2 := by
  obtain ⟨s, r⟩ := c
  obtain ⟨hs, h1, h2⟩ := celB_run h
  simp only at hs h1 h2
  have hs3 : s = 0 ∨ s = 1 ∨ s = 3 := by
    rcases st_cases s with h | h | h | ⟨_, _, _, hb⟩
    · exact .inl h
    · exact .inr (.inl h)
    · exact .inr (.inr h)
    · rw [hb] at hs; cases hs
  have hn := cel_num s r hs3 h1 h2
  obtain ⟨B, hB⟩ : ∃ B, (celByte (s, r)).toNat = B := ⟨_, rfl⟩
  rw [hB] at hn ⊢
  clear hB
  have h64 : ((B / 64 : Nat) : Int) = s ∧ ((B % 64 + 1 : Nat) : Int) = r := by
    rcases hs3 with rfl | rfl | rfl <;> omega
  refine ⟨by unfold celOf; rw [h64.1, h64.2], ?_⟩
  rcases hs3 with rfl | rfl | rfl <;> omega
/-- A text of cells is read as they are. -/
theorem get_back (l : List Cel) (h : ∀ c ∈ l, celB c = true) : okB ((l.map celByte).map UInt8.toNat) = true ∧ getF ((l.map celByte).map UInt8.toNat) = l := by
  have ho : okB ((l.map celByte).map UInt8.toNat) = true := by
    unfold okB
    rw [List.all_eq_true]
    intro x hx
    obtain ⟨y, hy, rfl⟩ := List.mem_map.1 hx
    obtain ⟨c, hc, rfl⟩ := List.mem_map.1 hy
    exact decide_eq_true (celByte_back c (h c hc)).2
  refine ⟨ho, ?_⟩
  unfold getF
  rw [if_pos ho, List.map_map, List.map_map]
  conv => rhs; rw [← List.map_id l]
  exact List.map_congr_left fun c hc => (celByte_back c (h c hc)).1
/-- The texts of the first k cells, as parts of 253. -/
theorem vecK_parts (l : List Cel) (k : Nat) (hk : k ≤ l.length) : vecK l k = (List.range ((k + 252) / 253)).map fun j => ((l.take k).drop (253 * j)).take 253 |>.map celByte := by
  induction k with
  | zero => rfl
  | succ k ih =>
    have hih := ih (by omega)
    have hs := take_snocC l k (by omega)
    rw [vecK]
    by_cases h0 : k % 253 = 0
    · rw [if_pos h0, hih]
      have e1 : (k + 252) / 253 = k / 253 := by omega
      have e2 : (k + 1 + 252) / 253 = k / 253 + 1 := by omega
      rw [e1, e2, List.range_succ, List.map_append]
      congr 1
      · refine List.map_congr_left fun j hj => ?_
        have hj2 := List.mem_range.1 hj
        rw [hs, List.drop_append_of_le_length (by rw [List.length_take]; omega), List.take_append_of_le_length (by rw [List.length_drop, List.length_take]; omega)]
      · have e3 : 253 * (k / 253) = k := by omega
        simp only [List.map_cons, List.map_nil, e3]
        rw [hs, List.drop_append, List.length_take, show min k l.length = k by omega, Nat.sub_self, List.drop_zero, List.drop_eq_nil_of_le (by rw [List.length_take]; omega), List.nil_append]
        rfl
    · rw [if_neg h0, hih]
      obtain ⟨q, hq⟩ : ∃ q, k / 253 = q := ⟨_, rfl⟩
      have e1 : (k + 252) / 253 = q + 1 := by omega
      have e2 : (k + 1 + 252) / 253 = q + 1 := by omega
      rw [e1, e2, List.range_succ, List.map_append, List.map_append]
      simp only [List.map_cons, List.map_nil]
      rw [List.dropLast_concat, List.getLastD_concat]
      congr 1
      · refine List.map_congr_left fun j hj => ?_
        have hj2 := List.mem_range.1 hj
        rw [hs, List.drop_append_of_le_length (by rw [List.length_take]; omega), List.take_append_of_le_length (by rw [List.length_drop, List.length_take]; omega)]
      · rw [hs, List.drop_append_of_le_length (by rw [List.length_take]; omega)]
        have hl : ((l.take k).drop (253 * q)).length = k - 253 * q := by rw [List.length_drop, List.length_take]; omega
        generalize (l.take k).drop (253 * q) = D at *
        rw [List.take_of_length_le (show D.length ≤ 253 by omega), List.take_of_length_le (by rw [List.length_append, hl, List.length_singleton]; omega), List.map_append]
        rfl
end Go.Proofs.YtnffdacajdjeoaaGreatDoor

namespace Go.Proofs.YtnffdacajdjeoaaGreatDoor
open Go.ChangeShapes Go.WideShapes Go.ChangeAt Go.RowKit Go.Shelf
attribute [local go_sem] Oper.semAt_some
set_option linter.unusedVariables false
set_option linter.unusedSimpArgs false

/-- Part j as a text. -/
def partB (l : List Cel) (j : Nat) : List UInt8 := ((l.drop (253 * j)).take 253).map celByte
def putR (l : List Cel) : List (List UInt8) := if mayF 0 l = true then (List.range ((l.length + 252) / 253)).map (partB l) else []
theorem wp_st_in {F : Fence} {n : Nat} {ops : Array Oper} {rest : List Oper} {o : Oper} {a : Act} {Q : Exit → Act → World → Prop} (hgd : o.guard = none) (s x : Operand)
    (ho : o.op = .call { callee := .builtin .append, args := #[s, x], argTypes := #[27, 27] })
    (B : Nat) (v : Value) (l : List (List UInt8)) (hs : a.eval s = v) (w0 w1 : World) (c : List UInt8) (hw : w1 = w0.alloc (.cells #[.string (str c)] 9)) (hb : w0.ownsRow B 9 1 v l.length (l.map stV)) (hB : B ≤ w0.heap.size) (H : Nat) (hH : w0.heap.size = H)
    (hx : a.eval x = .slice (some ⟨H, 0, none⟩) 1 1) (hlen : l.length ≤ 1073741824)
    (h : ∀ v' w', w'.ownsRow B 9 1 v' (l ++ [c]).length ((l ++ [c]).map stV) → Below B w0 w' → KeepsOthers w0 w' → wpListIn F n Tryz.prog ops Q rest (a.put o.dst v') w') : wpListIn F n Tryz.prog ops Q (o :: rest) a w1 := by
  obtain ⟨i0, hi, hz0, hz1, hz2⟩ := info_parts infoSt
  subst hH hw
  have hb' := hb.alloc (.cells #[.string (str c)] 9)
  have hBa : Below B w0 (w0.alloc (.cells #[.string (str c)] 9)) := (bel_alloc w0 _).mono hB
  refine wpListIn_append_own _ hgd s x 27 ho B 9 i0 (.string ⟨#[]⟩) 1 16 Tryz.underlying27 hi hz0 hz1 hz2 rfl (by decide) v l.length (l.map stV) hs hb' ⟨w0.heap.size, 0, none⟩ 1 1 [.string (str c)] hx rfl (fun j u hu => ?_) (by intro u hu; simp at hu; rcases hu with rfl | rfl <;> rfl) (by unfold maxLen; omega) (by omega) (by simp; omega) ?_
  · have hadd : (⟨w0.heap.size, 0, none⟩ : Addr).add j = ⟨w0.heap.size, j, none⟩ := by unfold Addr.add; split <;> simp_all
    rw [hadd, cell_of_row _ _ _ _ _ _ (heap_alloc_new w0 (.cells #[.string (str c)] 9))]
    simpa using hu
  · intro v' w' ho' hg _
    refine h v' w' ?_ (hBa.grown hg (by simp; omega) (fun k hk => (hb'.lt k hk).1)) ((KeepsOthers.alloc w0 _).trans (KeepsOthers.of_grownBy hg fun j o e hj => ?_))
    · rw [List.length_append, List.map_append]
      exact ho'
    · obtain ⟨c', fz, hk⟩ := Lib.ownsRow_kind hb' j e
      rw [hk] at hj
      cases hj
      rfl
theorem oper_append_st {F : Fence} {n : Nat} {ops : Array Oper} {o : Oper} {a : Act} {K : Act → World → Prop} {Q : Exit → Act → World → Prop} {X : Prop} (hgd : o.guard = none) (s x : Operand)
    (ho : o.op = .call { callee := .builtin .append, args := #[s, x], argTypes := #[27, 27] })
    (B : Nat) (v : Value) (l : List (List UInt8)) (hs : a.eval s = v) (w0 w1 : World) (c : List UInt8) (hw : w1 = w0.alloc (.cells #[.string (str c)] 9)) (hb : w0.ownsRow B 9 1 v l.length (l.map stV)) (hB : B ≤ w0.heap.size)
    (hx : a.eval x = .slice (some ⟨w0.heap.size, 0, none⟩) 1 1) (hlen : l.length ≤ 1073741824)
    (h : ∀ v' w', w'.ownsRow B 9 1 v' (l ++ [c]).length ((l ++ [c]).map stV) → Below B w0 w' → KeepsOthers w0 w' → K (a.put o.dst v') w') : if Region.wanted o (yielded ops a.tmps) = true then Oper.wpIn F n Tryz.prog o a w1 K Q else X := by
  obtain ⟨i0, hi, hz0, hz1, hz2⟩ := info_parts infoSt
  subst hw
  have hb' := hb.alloc (.cells #[.string (str c)] 9)
  have hBa : Below B w0 (w0.alloc (.cells #[.string (str c)] 9)) := (bel_alloc w0 _).mono hB
  rw [if_pos (by unfold Region.wanted; rw [hgd])]
  obtain ⟨v', w', hrun, r1, hg, r3⟩ := run_append_own (P := Tryz.prog) (w := w0.alloc (.cells #[.string (str c)] 9)) B 27 o.type 9 i0 (.string ⟨#[]⟩) 1 16 Tryz.underlying27 hi hz0 hz1 hz2 rfl (by decide) v l.length (l.map stV) hb' ⟨w0.heap.size, 0, none⟩ 1 1 [.string (str c)] rfl (fun j u hu => by
    have hadd : (⟨w0.heap.size, 0, none⟩ : Addr).add j = ⟨w0.heap.size, j, none⟩ := by unfold Addr.add; split <;> simp_all
    rw [hadd, cell_of_row _ _ _ _ _ _ (heap_alloc_new w0 (.cells #[.string (str c)] 9))]
    simpa using hu) (by intro u hu; simp at hu; rcases hu with rfl | rfl <;> rfl) (by unfold maxLen; omega) (by omega) (by simp; omega)
  unfold Oper.wpIn
  refine ⟨?_, ?_⟩
  · simp [Oper.about, ho, resolve, Target.leads, Sem.run_pure]
  · rw [Oper.semAt_plain F _ _ (by rw [ho]; intro c hc'; cases hc')]
    simp [execOp, ho, resolve, invoke, builtin, hs, hx, hrun, Result.andThen]
    refine h v' w' ?_ (hBa.grown hg (by simp; omega) (fun k hk => (hb'.lt k hk).1)) ((KeepsOthers.alloc w0 _).trans (KeepsOthers.of_grownBy hg fun j o e hj => ?_))
    · rw [List.length_append, List.map_append]
      exact r1
    · obtain ⟨c', fz, hk⟩ := Lib.ownsRow_kind hb' j e
      rw [hk] at hj
      cases hj
      rfl
theorem own_le {w : World} {B B' : Nat} {T n sz : Nat} {v : Value} {xs : List Value} (h : w.ownsRow B T sz v n xs) (hb : B' ≤ B) : w.ownsRow B' T sz v n xs := by
  obtain ⟨h1, h2⟩ := h
  refine ⟨h1, ?_⟩
  rcases h2 with h2 | ⟨g, cap, cur, e, hg, r⟩
  · exact .inl h2
  · exact .inr ⟨g, cap, cur, e, Nat.le_trans hb hg, r⟩
theorem st_shape {w : World} {B n : Nat} {v : Value} {xs : List Value} (h : w.ownsRow B 9 1 v n xs) : ∃ p m c, v = .slice p m c := by
  rcases h.2 with ⟨rfl, _⟩ | ⟨g, cap, cur, rfl, _⟩
  · exact ⟨_, _, _, rfl⟩
  · exact ⟨_, _, _, rfl⟩
/-- A part of a row of cells. -/
theorem c2_part {w : World} {p : Option Addr} {b off cap : Nat} {l : List Cel} (hv : C2At w (.slice p l.length cap) l) (hp : l.length = 0 ∨ p = some ⟨b, off, none⟩) (j : Nat) : C2At w (partV b off l.length j) ((l.drop (253 * j)).take 253) := by
  have hlen : ((l.drop (253 * j)).take 253).length = min 253 (l.length - 253 * j) := by rw [List.length_take, List.length_drop]
  obtain ⟨p', cap', e, h1, h2, h3⟩ := hv.at_
  injection e with e1 e2 e3
  subst e1 e3
  have h4 := hv.len
  have hg : ∀ i, i < min 253 (l.length - 253 * j) → ((l.drop (253 * j)).take 253).getD i (0, 0) = l.getD (253 * j + i) (0, 0) := fun i hi => by
    rw [List.getD_eq_getElem?_getD, List.getD_eq_getElem?_getD, List.getElem?_take, if_pos (by omega), List.getElem?_drop]
  refine ⟨⟨_, min 253 (l.length - 253 * j), by rw [hlen]; rfl, by omega, by omega, fun i hi => ?_⟩, by omega, fun i => ?_⟩
  · rw [hlen] at hi
    obtain ⟨b', o, e, hb, x, y⟩ := h3 (253 * j + i) (by omega)
    rcases hp with hp | hp
    · omega
    · rw [hp] at e
      injection e with e
      injection e with e1 e2
      subst e1 e2
      refine ⟨b, off + 253 * j * 2, rfl, hb, ?_, ?_⟩
      · rw [hg i hi, ← x]
        congr 2
        omega
      · rw [hg i hi, ← y]
        congr 2
        omega
  · by_cases hi : i < min 253 (l.length - 253 * j)
    · rw [hg i hi]; exact hv.small _
    · rw [List.getD_eq_getElem?_getD, List.getElem?_eq_none (by omega)]
      exact (by decide : -9223372036854775808 ≤ (0 : Int) ∧ (0 : Int) ≤ 9223372036854775807)
theorem part_cel {l : List Cel} (h : ∀ i, i < l.length → celB (l.getD i (0, 0)) = true) (j : Nat) : ∀ i, i < ((l.drop (253 * j)).take 253).length → celB (((l.drop (253 * j)).take 253).getD i (0, 0)) = true := fun i hi => by
  rw [List.length_take, List.length_drop] at hi
  rw [List.getD_eq_getElem?_getD, List.getElem?_take, if_pos (by omega), List.getElem?_drop, ← List.getD_eq_getElem?_getD]
  exact h _ (by omega)
/-- The texts so far, in their box. -/
structure PutI (l : List Cel) (B : Nat) (w1 : World) (pre : List Nat) (W : World) : Prop where
  ex : ∃ v, BlkIs #[v] 27 B W ∧ W.ownsRow (B + 3) 9 1 v (pre.map (partB l)).length ((pre.map (partB l)).map stV)
  below : Below B w1 W
  size : B + 3 ≤ W.heap.size
def putAct (p : Option Addr) (B b off N cap x : Nat) : Act := { tmps := #[.slice p N cap, undef, .slice none 0 0, .pointer (some ⟨B, 0, none⟩), partV b off N x, .slice p N cap, .bool true, .bool false, .slice p N cap, .func (.func 131) #[] #[.pointer (some ⟨B + 1, 0, none⟩), .pointer (some ⟨B + 1 + 1, 0, none⟩)], partV b off N x, undef, undef, undef, undef, undef, undef], defers := [] }
set_option maxRecDepth 100000 in
set_option maxHeartbeats 4000000 in
theorem vecPut_any (v : Value) (l : List Cel) (w : World) (hv : C2At w v l) (hl : l.length ≤ 1000000) :
    Calls Tryz.prog 21 #[v] w fun e w' => ∃ v', e = .returned v' ∧ StOwn w.heap.size v' (putR l) w w' := by
  have HM := Lib.hid (vecMay_any v l w hv)
  obtain ⟨p, cap, rfl, hcp, hcm, hc⟩ := hv.at_
  cases hmf : mayF 0 l with
  | false =>
    rw [hmf] at HM
    have HR : Hid (putR l = []) := Lib.hid (by unfold putR; rw [hmf]; rfl)
    clear hmf hc hv
    generalize l.length = N at *
    go_enter Tryz.func21, Tryz.ntmps21
    go_wp2_with (go_at_call 23; (with_reducible refine HM.out.mono ?_); rintro e w1 ⟨rfl, hb1⟩)
    go_ret
    exact ⟨_, rfl, by rw [HR.out]; exact (StOwn.nil w).kept hb1⟩
  | true =>
    rw [hmf] at HM
    have HR : Hid (putR l = (List.range ((l.length + 252) / 253)).map (partB l)) := Lib.hid (by unfold putR; rw [hmf]; rfl)
    obtain ⟨b, off, hp⟩ : ∃ b off, l.length = 0 ∨ p = some ⟨b, off, none⟩ := by
      by_cases h0 : l.length = 0
      · exact ⟨0, 0, .inl h0⟩
      · obtain ⟨b, o, e, _⟩ := hc 0 (by omega)
        exact ⟨b, o, .inr e⟩
    have HPT : Hid (∀ j W, Below w.heap.size w W → Calls Tryz.prog 86 #[partV b off l.length j] W fun e w' => e = .returned (.string (str (partB l j))) ∧ Below W.heap.size W w') := Lib.hid (fun j W hb =>
      vecText_any _ _ W ((c2_part hv hp j).below hb) (by rw [List.length_take]; omega) (part_cel (mayF_all l 0 hmf) j))
    have HMI := Lib.hid (callsIn_wide (n := 7).2 HM.out)
    clear hc hv hmf HM
    obtain ⟨N, hN⟩ : ∃ N, l.length = N := ⟨_, rfl⟩
    rw [hN] at HPT HMI HR hp hcp hl ⊢
    clear hN
    refine (callsIn_wide (n := 8)).1 ?_
    refine callsIn_of_wp_marks Tryz.func21 rfl trivial ?_ rfl
    simp only [Tryz.ntmps21, List.size_toArray, List.length_cons, List.length_nil, Nat.reduceAdd, Nat.reduceSub, Array.replicate_succ, Array.replicate_zero, List.push_toArray, List.append_toArray, List.nil_append, List.cons_append]
    gi_wp2_with (first
      | (refine ⟨trivial, ?_⟩; gi_at_call 23; refine HMI.out.mono ?_; rintro e w1 ⟨rfl, hb1⟩)
      | (refine ⟨trivial, ?_⟩; gi_at_call 85; refine (chunk_in Fence.wide _ trivial rfl _ _ _ _).mono ?_; rintro e w2 ⟨rfl, rfl⟩))
    have k0 : BlkIs #[.slice none 0 0] 27 w1.heap.size (((w1.alloc (.cells #[.slice none 0 0] 27)).alloc (.cells #[.slice p N cap] 22)).alloc (.cells #[.int .i64 253] 3)) := ((BlkIs.new _ _ _).alloc _).alloc _
    have k1 : BlkIs #[.slice p N cap] 22 (w1.heap.size + 1) (((w1.alloc (.cells #[.slice none 0 0] 27)).alloc (.cells #[.slice p N cap] 22)).alloc (.cells #[.int .i64 253] 3)) := by
      have := (BlkIs.new #[.slice p N cap] 22 (w1.alloc (.cells #[.slice none 0 0] 27))).alloc (.cells #[.int .i64 253] 3)
      rw [World.size_alloc] at this
      exact this
    have k2 : BlkIs #[.int .i64 253] 3 (w1.heap.size + 1 + 1) (((w1.alloc (.cells #[.slice none 0 0] 27)).alloc (.cells #[.slice p N cap] 22)).alloc (.cells #[.int .i64 253] 3)) := by
      have := BlkIs.new #[.int .i64 253] 3 ((w1.alloc (.cells #[.slice none 0 0] 27)).alloc (.cells #[.slice p N cap] 22))
      rw [World.size_alloc, World.size_alloc] at this
      exact this
    have hsz : (((w1.alloc (.cells #[.slice none 0 0] 27)).alloc (.cells #[.slice p N cap] 22)).alloc (.cells #[.int .i64 253] 3)).heap.size = w1.heap.size + 1 + 1 + 1 := by simp
    have hbl : Below w1.heap.size w1 (((w1.alloc (.cells #[.slice none 0 0] 27)).alloc (.cells #[.slice p N cap] 22)).alloc (.cells #[.int .i64 253] 3)) := bel_trans (bel_trans (bel_alloc _ _) (bel_alloc _ _)) (bel_alloc _ _)
    generalize ((w1.alloc (.cells #[.slice none 0 0] 27)).alloc (.cells #[.slice p N cap] 22)).alloc (.cells #[.int .i64 253] 3) = W2 at *
    obtain ⟨B, hB⟩ : ∃ B, w1.heap.size = B := ⟨_, rfl⟩
    rw [hB] at k0 k1 k2 hsz hbl ⊢
    have HPT2 : Hid (∀ j W, Below B w1 W → Calls Tryz.prog 86 #[partV b off N j] W fun e w' => e = .returned (.string (str (partB l j))) ∧ Below W.heap.size W w') := Lib.hid (fun j W hb => HPT.out j W (bel_trans hb1 (by rw [hB]; exact hb)))
    have HSQ : Hid (SeqStopsK Fence.wide 7 Tryz.prog 131 #[.pointer (some ⟨B + 1, 0, none⟩), .pointer (some ⟨B + 1 + 1, 0, none⟩)] (fun j : Nat => #[partV b off N j]) (KpS (B + 1) (B + 1 + 1)) (fun ys => ys = List.range ((N + 252) / 253)) (fun pre => ∃ k, k ≤ (N + 252) / 253 ∧ pre = List.range k) ((N + 252) / 253) W2) := Lib.hid (by
      exact chunk_stops Fence.wide 7 trivial rfl (by decide) (B + 1) (B + 1 + 1) b off N cap (KpS (B + 1) (B + 1 + 1)) (fun A B' h => ⟨h.cellB 0, h.cellG 0⟩) p hp hl hcp hcm W2 k1.lt k2.lt (k1.cell 0) (k2.cell 0))
    have HI0 : Hid (PutI l B w1 [] W2) := Lib.hid ⟨⟨_, k0, World.ownsRow_nil _ _ _ _⟩, hbl, by omega⟩
    have HB1 := Lib.hid hb1
    have HBe := Lib.hid hB
    clear k0 k1 k2 hbl hb1 hB HPT
    gi_wp2
    refine wpIn_rangeFunc_ownG rfl (by decide) (gf := 131) (lb := #[.pointer (some ⟨B + 1, 0, none⟩), .pointer (some ⟨B + 1 + 1, 0, none⟩)]) rfl trivial (enters_of Tryz.func131 (by kernel_rfl) rfl)
      HSQ.out KpS.trans (fun W l' o o' hl' ho hc hw => ?kb) (Below.refl _ _) (fun _ => rfl)
      (PutI l B w1) (fun _ _ _ => False) (fun s X Y row hs hg hr => ?own) (fun _ _ _ _ _ hs _ _ => hs) HI0.out (fun x => putAct p B b off N cap x) ?assign ?body ?done ?stop
    case kb =>
      have hl2 : l' < W.heap.size := (Array.getElem?_eq_some_iff.1 ho).1
      rw [hsz] at hl'
      exact ⟨(grownBy_putObj' W l' o').block (B + 1) (by omega) (fun e => by cases e; omega), (grownBy_putObj' W l' o').block (B + 1 + 1) (by omega) (fun e => by cases e; omega)⟩
    case own =>
      obtain ⟨⟨v, h1, h2⟩, h3, h4⟩ := hs
      rw [hsz] at hr
      exact ⟨⟨v, h1.own hg (fun r e => (hr r e).2), h2.kept hg (by
        cases hv : v.ownBlock with
        | none => exact .inl rfl
        | some g =>
          right
          intro e
          obtain ⟨o, ho, hc⟩ := (hr g e.symm).2
          obtain ⟨c', fz, hk⟩ := Lib.ownsRow_kind h2 g hv
          rw [hk] at ho
          cases ho
          cases hc)⟩, h3.grown hg (by omega) (fun r e => by have := (hr r e).1; omega), Nat.le_trans h4 hg.size⟩
    case assign =>
      intro l' x W K hK
      gi_wp2
      exact hK
    case body =>
      intro l' pre x W hI hlt
      obtain ⟨⟨v, hbx, hown⟩, hbw, hsz3⟩ := hI
      unfold putAct
      have c0 : W.cell? ⟨B, 0, none⟩ = some v := hbx.cell 0
      have HOWN := Lib.hid hown
      have HBW := Lib.hid hbw
      have HLT : Hid (pre.length ≤ 1000000) := Lib.hid (by omega)
      have HT : Hid (∀ W', Below B w1 W' → Calls Tryz.prog 86 #[partV b off N x] W' fun e w' => e = .returned (.string (str (partB l x))) ∧ Below W'.heap.size W' w') := Lib.hid (HPT2.out x)
      have HF : Hid (∀ w5 v' w', Below W.heap.size W w5 → w'.ownsRow (B + 3) 9 1 v' (pre.map (partB l) ++ [partB l x]).length ((pre.map (partB l) ++ [partB l x]).map stV) → Below (B + 3) w5 w' → KeepsOthers w5 w' →
          KeepsFrom W2.heap.size W (w'.setCell ⟨B, 0, none⟩ v') ∧ KpS (B + 1) (B + 1 + 1) W (w'.setCell ⟨B, 0, none⟩ v') ∧ PutI l B w1 (pre ++ [x]) (w'.setCell ⟨B, 0, none⟩ v')) := Lib.hid (fun w5 v' w' h1 h2 h3 h4 => by
        have h5 : Below (B + 3) W w' := (h1.mono hsz3).trans h3
        have h6 : KeepsOthers W w5 := ⟨h1.size, fun k o hk ho => by rw [h1.block k (Array.getElem?_eq_some_iff.1 hk).1]; exact hk⟩
        refine ⟨((h6.trans h4).trans (KeepsOthers.setCell _ _ _)).from _, ⟨?_, ?_⟩, ⟨⟨v', ?_, ?_⟩, ?_, ?_⟩⟩
        · exact (Below.heap_setCell _ _ _ _ (by simp)).trans (h5.block _ (by omega))
        · exact (Below.heap_setCell _ _ _ _ (by simp; omega)).trans (h5.block _ (by omega))
        · exact BlkIs.set (show BlkIs #[v] 27 B w' from (h5.block B (by omega)).trans hbx) 0 v'
        · rw [List.map_append]
          exact ownsRow_setCell_below h2 (show B < B + 3 by omega) v'
        · exact (hbw.trans (h5.mono (by omega))).setCell (p := ⟨B, 0, none⟩) (Nat.le_refl _) _
        · have := h5.size
          simpa using Nat.le_trans hsz3 this)
      have HZ : Hid (∀ w5, Below W.drew.heap.size W.drew w5 → Below W.heap.size W w5 ∧ w5.ownsRow (B + 3) 9 1 v (pre.map (partB l)).length ((pre.map (partB l)).map stV) ∧ B + 3 ≤ w5.heap.size ∧ w5.cell? ⟨B, 0, none⟩ = some v ∧ (w5.alloc (.cells #[.string (str (partB l x))] 9)).cell? ⟨B, 0, none⟩ = some v ∧ ∀ w', Below (B + 3) w5 w' → w'.cell? ⟨B, 0, none⟩ = some v ∧ w'.frozen? ⟨B, 0, none⟩ = false) := Lib.hid (fun w5 h => by
        have h1 : Below W.heap.size W w5 := bel_trans (bel_drew1 W) h
        have k5 : BlkIs #[v] 27 B w5 := (h1.block B (by omega)).trans hbx
        have hs5 := h1.size
        refine ⟨h1, hown.kept (row := none) ⟨h1.os, h1.tape, h1.output, h1.size, fun k hk _ => h1.block k hk⟩ (by cases v.ownBlock <;> simp), by omega, k5.cell 0, (k5.alloc _).cell 0, fun w' h' => ?_⟩
        have k9 : BlkIs #[v] 27 B w' := (h'.block B (by omega)).trans k5
        exact ⟨k9.cell 0, k9.free 0⟩)
      have HBD : Hid (Below B w1 W.drew) := Lib.hid (hbw.trans ((bel_drew1 W).mono (by omega)))
      generalize partV b off N x = pv at *
      generalize partB l x = tx at *
      clear hbx hown hbw hsz3
      gi_wp2
      refine wpIn_region_any (by kernel_rfl) ?_
      try (change wpAnyIn _ _ _ _ _ _ _ _ _ (World.drew _))
      repeat' (first
        | exact AllReadyIn.nil
        | (refine wpAnyIn_ready (rs := [0, 1]) (by decide +kernel) (by simp) ?_)
        | (refine wpAnyIn_ready (rs := [0, 2]) (by decide +kernel) (by simp) ?_)
        | (refine wpAnyIn_ready (rs := [0, 3]) (by decide +kernel) (by simp) ?_)
        | (refine wpAnyIn_ready (rs := [0]) (by decide +kernel) (by simp) ?_)
        | (refine wpAnyIn_ready (rs := [1]) (by decide +kernel) (by simp) ?_)
        | (refine wpAnyIn_ready (rs := [2]) (by decide +kernel) (by simp) ?_)
        | (refine wpAnyIn_ready (rs := [3]) (by decide +kernel) (by simp) ?_)
        | (refine wpAnyIn_ready (rs := [4]) (by decide +kernel) (by simp) ?_)
        | (refine wpAnyIn_ready (rs := [5]) (by decide +kernel) (by simp) ?_)
        | (refine AllReadyIn.cons rfl (fun K hK => ?_) ?_)
        | (refine oper_append_st rfl _ _ rfl (B + 3) v (pre.map (partB l)) rfl w5 _ tx rfl z2 z3 rfl (by rw [List.length_map]; have := HLT.out; omega) ?_; intro v9 w9 hown9 hb9 hk9; obtain ⟨c9, f9⟩ := z5 w9 hb9; obtain ⟨pp, mm, cc, rfl⟩ := st_shape hown9; refine hK _ _ ?_; clear hK K)
        | (go_simp; refine ⟨trivial, ?_⟩; refine (CallsIn.inRound l' (callsIn_wide.2 (HT.out W.drew HBD.out))).mono ?_; rintro e w5 ⟨rfl, hb5⟩; obtain ⟨z1, z2, z3, z4, z6, z5⟩ := HZ.out w5 hb5; refine hK _ _ ?_; clear hK K)
        | (go_simp; refine hK _ _ ?_; clear hK K)
        | (refine wpAnyIn_done (by decide +kernel) ?_ _))
      all_goals
        gi_wp2
        exact HF.out w5 _ w9 z1 hown9 hb9 hk9
    case done =>
      rintro D ys W hD rfl ⟨⟨v, hbx, hown⟩, hbw, hsz3⟩ hK
      have c0 : W.cell? ⟨B, 0, none⟩ = some v := hbx.cell 0
      have HOWN := Lib.hid hown
      clear hbx hown
      gi_wp2
      refine ⟨by simp, .inl ⟨_, _, rfl, run_takeDeferred hK, ?_⟩⟩
      refine ⟨_, results_tmp rfl _ _ _, _, rfl, ?_⟩
      have hbe := HBe.out
      have hs1 := HB1.out.size
      rw [HR.out]
      exact ⟨own_le (ownsRow_putObj HOWN.out _ hK rfl) (by rw [hbe] at hs1; omega), HB1.out.trans ((hbw.trans (belowK_b (n₀ := B) (w := W2) (by omega) W D _ _ hD hK rfl rfl)).mono (by omega)), by simp; omega⟩
    case stop =>
      rintro D c pre W _ _ h _
      exact h.elim
end Go.Proofs.YtnffdacajdjeoaaGreatDoor

namespace Go.Proofs.YtnffdacajdjeoaaGreatDoor
open Go.ChangeShapes Go.WideShapes Go.Deep Go.RowKit
set_option linter.unusedVariables false

theorem addr_plain {w : World} {a : Addr} {v : Value} (h : w.cell? (a.add 0) = some v) : ∃ b o, a = ⟨b, o, none⟩ ∧ b < w.heap.size := by
  have e : a.add 0 = a := by unfold Addr.add; split <;> simp_all
  rw [e] at h
  have hs : a.spot = none := by
    unfold World.cell? at h
    split at h
    · cases hsp : a.spot with
      | none => rfl
      | some x => rw [hsp] at h; simp at h
    · cases h
  have hb := World.block_lt_of_cell? w a h
  obtain ⟨b, o, sp⟩ := a
  simp only at hs
  subst hs
  exact ⟨b, o, rfl, hb⟩
theorem add_plain (b o k : Nat) : (⟨b, o, none⟩ : Addr).add k = ⟨b, o + k, none⟩ := by unfold Addr.add; split <;> simp_all

theorem open_row {H : Type} {enc : TypeId × Value → H} {W : World} {t e : TypeId} {k : IntKind} {p : Option Addr} {n c : Nat} {d : DataW H} {q : List MemPlace}
    (ht : Tryz.prog.underlying t = some (.slice e)) (he : Tryz.prog.underlying e = some (.int k)) (hc : Tryz.prog.cellsOf e = 1)
    (h : DataW.Trod enc Tryz.prog W 0 (fun _ => true) true t (.slice p n c) d q) :
    n ≤ c ∧ c ≤ 9223372036854775807 ∧ ∃ zs : List Int, n ≤ zs.length ∧ (∀ z ∈ zs, (Lit.int k z).wf = true) ∧ ∀ i, i < n → ∃ b o, p = some ⟨b, o, none⟩ ∧ b < W.heap.size ∧ W.cell? ⟨b, o + i, none⟩ = some (.int k (zs.getD i 0)) := by
  obtain ⟨fuel, hf⟩ := h
  rcases open_ints ht he hc hf with ⟨hcs, hx⟩ | ⟨a, len', cap', zs, hcs, _, hl, hm, hz, hx, hcell, hwz⟩
  · simp [Value.cells] at hcs
    obtain ⟨rfl, rfl, rfl⟩ := hcs
    exact ⟨by omega, by omega, [], by simp, by simp, fun i hi => absurd hi (Nat.not_lt_zero i)⟩
  · simp [Value.cells] at hcs
    obtain ⟨rfl, rfl, rfl⟩ := hcs
    simp only [if_true] at hz
    have hm' : c ≤ 9223372036854775807 := hm
    refine ⟨hl, hm', zs, by omega, hwz, fun i hi => ?_⟩
    obtain ⟨b, o, rfl, hb⟩ := addr_plain (hcell 0 (by omega))
    have h1 := hcell i (by omega)
    rw [add_plain] at h1
    exact ⟨b, o, rfl, hb, h1⟩

theorem getD_take_lt {α : Type} (l : List α) (d : α) (m i : Nat) (h : i < m) : (l.take m).getD i d = l.getD i d := by
  rw [List.getD_eq_getElem?_getD, List.getD_eq_getElem?_getD, List.getElem?_take, if_pos h]
theorem getD_prop {α : Type} {P : α → Prop} {l : List α} {d : α} (h : ∀ z ∈ l, P z) (hd : P d) (i : Nat) : P (l.getD i d) := by
  rw [List.getD_eq_getElem?_getD]
  by_cases hi : i < l.length
  · rw [List.getElem?_eq_getElem hi]; exact h _ (List.getElem_mem _)
  · rw [List.getElem?_eq_none (by omega)]; exact hd

/-- Its first m numbers, signed. -/
theorem open_i64s {H : Type} {enc : TypeId × Value → H} {W : World} {t e : TypeId} {p : Option Addr} {n c : Nat} {d : DataW H} {q : List MemPlace} (m : Nat) (hm : m ≤ 1073741824)
    (ht : Tryz.prog.underlying t = some (.slice e)) (he : Tryz.prog.underlying e = some (.int .i64)) (hc : Tryz.prog.cellsOf e = 1)
    (h : DataW.Trod enc Tryz.prog W 0 (fun _ => true) true t (.slice p n c) d q) :
    n ≤ c ∧ c ≤ 9223372036854775807 ∧ ∃ l : List Int, l.length = min n m ∧ I64At W (.slice p l.length c) l := by
  obtain ⟨h1, h2, zs, h3, h4, h5⟩ := open_row ht he hc h
  have hl : (zs.take (min n m)).length = min n m := by rw [List.length_take]; omega
  refine ⟨h1, h2, zs.take (min n m), hl, ⟨p, c, rfl, by omega, h2, fun i hi => ?_⟩, by omega, fun i => ?_⟩
  · rw [getD_take_lt _ _ _ _ (by omega)]
    exact h5 i (by omega)
  · exact getD_prop (P := fun z => -9223372036854775808 ≤ z ∧ z ≤ 9223372036854775807) (fun z hz => bounds_i64 (h4 z (List.mem_of_mem_take hz))) (by decide) i
/-- All its numbers, signed. -/
theorem open_i64w {H : Type} {enc : TypeId × Value → H} {W : World} {t e : TypeId} {p : Option Addr} {n c : Nat} {d : DataW H} {q : List MemPlace}
    (ht : Tryz.prog.underlying t = some (.slice e)) (he : Tryz.prog.underlying e = some (.int .i64)) (hc : Tryz.prog.cellsOf e = 1)
    (h : DataW.Trod enc Tryz.prog W 0 (fun _ => true) true t (.slice p n c) d q) :
    n ≤ c ∧ c ≤ 9223372036854775807 ∧ ∃ l : List Int, l.length = n ∧ ∀ i, i < l.length → ∃ b o, p = some ⟨b, o, none⟩ ∧ b < W.heap.size ∧ W.cell? ⟨b, o + i, none⟩ = some (.int .i64 (l.getD i 0)) := by
  obtain ⟨h1, h2, zs, h3, h4, h5⟩ := open_row ht he hc h
  have hl : (zs.take n).length = n := by rw [List.length_take]; omega
  refine ⟨h1, h2, zs.take n, hl, fun i hi => ?_⟩
  rw [getD_take_lt _ _ _ _ (by omega)]
  exact h5 i (by omega)
/-- Its first m numbers, without a sign. -/
theorem open_u64s {H : Type} {enc : TypeId × Value → H} {W : World} {t e : TypeId} {p : Option Addr} {n c : Nat} {d : DataW H} {q : List MemPlace} (m : Nat) (hm : m ≤ 1073741824)
    (ht : Tryz.prog.underlying t = some (.slice e)) (he : Tryz.prog.underlying e = some (.int .u64)) (hc : Tryz.prog.cellsOf e = 1)
    (h : DataW.Trod enc Tryz.prog W 0 (fun _ => true) true t (.slice p n c) d q) :
    n ≤ c ∧ c ≤ 9223372036854775807 ∧ ∃ l : List Nat, l.length = min n m ∧ U64At W (.slice p l.length c) l := by
  obtain ⟨h1, h2, zs, h3, h4, h5⟩ := open_row ht he hc h
  have hb : ∀ i, 0 ≤ zs.getD i 0 ∧ zs.getD i 0 ≤ 18446744073709551615 := fun i => getD_prop (P := fun z => 0 ≤ z ∧ z ≤ 18446744073709551615) (fun z hz => bounds_u64 (h4 z hz)) (by decide) i
  have hl : ((zs.take (min n m)).map Int.toNat).length = min n m := by rw [List.length_map, List.length_take]; omega
  have hg : ∀ i, i < min n m → ((((zs.take (min n m)).map Int.toNat).getD i 0 : Nat) : Int) = zs.getD i 0 := fun i hi => by
    have h6 := hb i
    rw [List.getD_eq_getElem?_getD] at h6
    rw [List.getD_eq_getElem?_getD, List.getD_eq_getElem?_getD, List.getElem?_map, List.getElem?_take, if_pos hi]
    have hz : i < zs.length := by omega
    rw [List.getElem?_eq_getElem hz] at h6 ⊢
    simp only [Option.getD_some, Option.map_some] at h6 ⊢
    omega
  refine ⟨h1, h2, (zs.take (min n m)).map Int.toNat, hl, ⟨p, c, rfl, by omega, h2, fun i hi => ?_⟩, by omega, fun i => ?_⟩
  · rw [hg i (by omega)]
    exact h5 i (by omega)
  · by_cases hi : i < min n m
    · have h6 := hb i
      have h7 := hg i hi
      omega
    · rw [List.getD_eq_getElem?_getD, List.getElem?_eq_none (by omega)]
      decide

/-- A row of pairs of numbers, whole. -/
theorem open_pairs {H : Type} {enc : TypeId × Value → H} {W : World} {t e : TypeId} {f0 f1 : Field} {p : Option Addr} {n c : Nat} {d : DataW H} {q : List MemPlace}
    (ht : Tryz.prog.underlying t = some (.slice e)) (he : Tryz.prog.underlying e = some (.struct #[f0, f1])) (ce : Tryz.prog.cellsOf e = 2) (o0 : f0.offset = 0) (o1 : f1.offset = 1) (c0 : Tryz.prog.cellsOf f0.type = 1) (c1 : Tryz.prog.cellsOf f1.type = 1)
    (u0 : Tryz.prog.underlying f0.type = some (.int .i64)) (u1 : Tryz.prog.underlying f1.type = some (.int .i64))
    (h : DataW.Trod enc Tryz.prog W 0 (fun _ => true) true t (.slice p n c) d q) :
    n ≤ c ∧ c ≤ 9223372036854775807 ∧ ∃ l : List Cel, l.length = n ∧ (∀ x ∈ l, -9223372036854775808 ≤ x.2 ∧ x.2 ≤ 9223372036854775807) ∧
      ∀ i, i < l.length → ∃ b o, p = some ⟨b, o, none⟩ ∧ b < W.heap.size ∧ W.cell? ⟨b, o + i * 2, none⟩ = some (.int .i64 (l.getD i (0, 0)).1) ∧ W.cell? ⟨b, o + i * 2 + 1, none⟩ = some (.int .i64 (l.getD i (0, 0)).2) := by
  obtain ⟨fuel, hf⟩ := h
  rcases open_slice_pairs ht he ce o0 o1 c0 c1 hf with ⟨hcs, hx⟩ | ⟨a, len, cap, m, n', V0, V1, D0, D1, P0, P1, hcs, _, hl, hm, hmm, hx, hi⟩
  · simp [Value.cells] at hcs
    obtain ⟨rfl, rfl, rfl⟩ := hcs
    exact ⟨by omega, by omega, [], rfl, by simp, fun i hi => absurd hi (Nat.not_lt_zero i)⟩
  · simp [Value.cells] at hcs
    obtain ⟨rfl, rfl, rfl⟩ := hcs
    have hm' : c ≤ 9223372036854775807 := hm
    simp only [if_true] at hmm
    have key : ∀ i, i < n → ∃ x : Cel, V0 i = .int .i64 x.1 ∧ V1 i = .int .i64 x.2 ∧ (-9223372036854775808 ≤ x.2 ∧ x.2 ≤ 9223372036854775807) := by
      intro i hin
      obtain ⟨_, _, k0, k1⟩ := hi i (by omega)
      obtain ⟨z0, hz0, _, _⟩ := DataW.trod_int u0 k0
      obtain ⟨z1, hz1, _, hw1⟩ := DataW.trod_int u1 k1
      simp at hz0 hz1
      exact ⟨(z0, z1), hz0, hz1, bounds_i64 hw1⟩
    have hlist : ∀ m', m' ≤ n → ∃ l : List Cel, l.length = m' ∧ (∀ x ∈ l, -9223372036854775808 ≤ x.2 ∧ x.2 ≤ 9223372036854775807) ∧ ∀ i, i < m' → V0 i = .int .i64 (l.getD i (0, 0)).1 ∧ V1 i = .int .i64 (l.getD i (0, 0)).2 := by
      intro m'
      induction m' with
      | zero => exact fun _ => ⟨[], rfl, by simp, fun i hi => absurd hi (Nat.not_lt_zero i)⟩
      | succ m' ih =>
        intro hmn
        obtain ⟨l, hl1, hl2, hl3⟩ := ih (by omega)
        obtain ⟨x, hx0, hx1, hx2⟩ := key m' (by omega)
        refine ⟨l ++ [x], by simp [hl1], fun y hy => ?_, fun i hi' => ?_⟩
        · rcases List.mem_append.1 hy with h8 | h8
          · exact hl2 y h8
          · rw [List.mem_singleton.1 h8]; exact hx2
        · by_cases e' : i < m'
          · have h9 := hl3 i e'
            rw [List.getD_eq_getElem?_getD] at h9 ⊢
            rwa [List.getElem?_append_left (by omega)]
          · obtain rfl : i = m' := by omega
            rw [List.getD_eq_getElem?_getD, List.getElem?_append_right (by omega), hl1]
            simpa using ⟨hx0, hx1⟩
    obtain ⟨l, hl1, hl2, hl3⟩ := hlist n (Nat.le_refl _)
    refine ⟨hl, hm', l, hl1, hl2, fun i hi' => ?_⟩
    have h0 := (hi 0 (by omega)).1
    rw [Nat.zero_mul] at h0
    obtain ⟨b, o, rfl, hb⟩ := addr_plain h0
    obtain ⟨h6, h7, _, _⟩ := hi i (by omega)
    obtain ⟨h8, h9⟩ := hl3 i (by omega)
    rw [add_plain] at h6 h7
    rw [h8] at h6
    rw [h9] at h7
    exact ⟨b, o, rfl, hb, h6, h7⟩
end Go.Proofs.YtnffdacajdjeoaaGreatDoor

namespace Go.Proofs.YtnffdacajdjeoaaGreatDoor
open Go.ChangeShapes Go.WideShapes Go.ChangeAt Go.RowKit
set_option linter.unusedVariables false
set_option linter.unusedSimpArgs false

/-- A row of texts in memory, however it came there. -/
structure StAt (w : World) (v : Value) (P : List (List UInt8)) : Prop where
  at_ : ∃ p c, v = .slice p P.length c ∧ P.length ≤ c ∧ c ≤ 9223372036854775807 ∧ ∀ i, i < P.length → ∃ g, p = some ⟨g, 0, none⟩ ∧ g < w.heap.size ∧ w.cell? ⟨g, i, none⟩ = some (.string (str (P.getD i [])))
theorem StAt.below {w w' : World} {v : Value} {P : List (List UInt8)} (h : StAt w v P) (hb : Below w.heap.size w w') : StAt w' v P := by
  obtain ⟨p, c, e, h1, h2, h3⟩ := h.at_
  refine ⟨p, c, e, h1, h2, fun i hi => ?_⟩
  obtain ⟨g, e1, h4, h5⟩ := h3 i hi
  exact ⟨g, e1, Nat.lt_of_lt_of_le h4 hb.size, (hb.cell (p := ⟨g, i, none⟩) h4).trans h5⟩
theorem StOwn.at {B : Nat} {v : Value} {P : List (List UInt8)} {W0 w : World} (h : StOwn B v P W0 w) : StAt w v P := by
  rcases Nat.eq_zero_or_pos P.length with h0 | h0
  · rcases h.1.2 with ⟨rfl, _⟩ | ⟨g, cap, cur, rfl, hB, hg, hcap, hcm, _, ht⟩
    · exact ⟨none, 0, by rw [h0], by omega, by decide, fun i hi => by omega⟩
    · exact ⟨some ⟨g, 0, none⟩, cap, rfl, hcap, by unfold maxLen at hcm; omega, fun i hi => by omega⟩
  · obtain ⟨g, c, e, h1, h2, _, h3, h4, _⟩ := h.shape h0
    exact ⟨_, c, e, h1, h2, fun i hi => ⟨g, rfl, h3, h4 i hi⟩⟩
/-- One row of cells appended to another. -/
theorem wp_cels {ops : Array Oper} {rest : List Oper} {o : Oper} {a : Act} {Q : Exit → Act → World → Prop} (hgd : o.guard = none) (s x : Operand)
    (ho : o.op = .call { callee := .builtin .append, args := #[s, x], argTypes := #[22, 22] })
    (B : Nat) (v : Value) (l : List Cel) (hs : a.eval s = v) (W0 w : World) (hb : CelOwn B v l W0 w) (B2 : Nat) (v2 : Value) (m : List Cel) (W2 : World) (h2 : CelOwn B2 v2 m W2 w) (hne : 0 < m.length)
    (hx : a.eval x = v2) (hlen : l.length ≤ 1000000) (hm : m.length ≤ 1000000)
    (h : ∀ v' w', CelOwn B v' (l ++ m) W0 w' → wpList Tryz.prog ops Q rest (a.put o.dst v') w') : wpList Tryz.prog ops Q (o :: rest) a w := by
  obtain ⟨i0, hi, hz0, hz1, hz2⟩ := info_parts infoC2z
  obtain ⟨g, c, rfl, hc1, hc2, _, hlt, hcell, _⟩ := h2.shape hne
  refine wpList_append_own _ hgd s x 22 ho B 86 i0 (.agg #[.int .i64 0, .int .i64 0]) 2 16 Tryz.underlying22 hi hz0 hz1 hz2 rfl (by decide) v l.length (celList l) hs hb.1 ⟨g, 0, none⟩ m.length c (celList m) hx (celList_len m) (fun j u hu => ?_) (fun u hu => ?_) (by unfold maxLen; omega) (by omega) hb.2.2 ?_
  · have hj : j < m.length * 2 := by
      rcases Nat.lt_or_ge j (m.length * 2) with hlt | hge
      · exact hlt
      · rw [List.getElem?_eq_none (by rw [celList_len]; omega)] at hu; cases hu
    rw [add_plain, Nat.zero_add]
    obtain ⟨c0, c1⟩ := hcell (j / 2) (by omega)
    obtain ⟨e0, e1⟩ := celList_get m (j / 2) (by omega)
    have hp : j = j / 2 * 2 ∨ j = j / 2 * 2 + 1 := by omega
    rcases hp with hp | hp
    · rw [← hp] at c0 e0
      rw [e0] at hu; cases hu; exact c0
    · rw [← hp] at c1 e1
      rw [e1] at hu; cases hu; exact c1
  · obtain ⟨q, _, hu⟩ := List.mem_flatMap.1 hu
    simp at hu
    rcases hu with rfl | rfl <;> rfl
  · intro v' w' ho' hg _
    refine h v' w' ⟨?_, hb.2.1.grown hg hb.2.2 (fun k hk => (hb.1.lt k hk).1), Nat.le_trans hb.2.2 hg.size⟩
    rw [List.length_append, show celList (l ++ m) = celList l ++ celList m from List.flatMap_append]
    exact ho'
/-- Part i of cells. -/
def partC (l : List Cel) (i : Nat) : List Cel := (l.drop (253 * i)).take 253
theorem partC_len (l : List Cel) (i : Nat) : (partC l i).length = min 253 (l.length - 253 * i) := by unfold partC; rw [List.length_take, List.length_drop]
theorem part_take (l : List Cel) (i : Nat) : l.take (253 * (i + 1)) = l.take (253 * i) ++ partC l i := by rw [Nat.mul_add, Nat.mul_one, List.take_add]; rfl
theorem put_vec (l : List Cel) : vecR l = putR l := by
  unfold vecR putR
  split
  · rw [vecK_parts l l.length (Nat.le_refl _), List.take_length]
    rfl
  · rfl
theorem put_len (l : List Cel) : (putR l).length = if mayF 0 l = true then (l.length + 252) / 253 else 0 := by
  unfold putR
  split
  · simp
  · rfl
theorem put_get (l : List Cel) (i : Nat) (h : i < (putR l).length) : (putR l).getD i [] = (partC l i).map celByte := by
  rw [put_len] at h
  unfold putR
  split at h
  · rename_i hm
    rw [if_pos hm, List.getD_eq_getElem?_getD, List.getElem?_map, List.getElem?_range h]
    rfl
  · omega
theorem cel_part {l : List Cel} (h : mayF 0 l = true) (i : Nat) : ∀ c ∈ partC l i, celB c = true := fun c hc => by
  have hc' : c ∈ l := List.mem_of_mem_drop (List.mem_of_mem_take hc)
  obtain ⟨k, hk, e⟩ := List.getElem_of_mem hc'
  have := mayF_all l 0 h k hk
  rw [List.getD_eq_getElem?_getD, List.getElem?_eq_getElem hk, Option.getD_some, e] at this
  exact this
/-- vec.Get of a text as bytes. -/
theorem vecGet_str (L : List UInt8) (hL : L.length ≤ 1073741824) (w : World) :
    Calls Tryz.prog 27 #[.string (str L)] w fun e w' => ∃ v', e = .returned (.tuple #[v', .bool (okB (L.map UInt8.toNat))]) ∧ CelOwn w.heap.size v' (getF (L.map UInt8.toNat)) w w' := vecGet_any (str L) hL w
theorem refGetV_str (L : List UInt8) (hL : L.length ≤ 1073741824) (w : World) :
    Calls Tryz.prog 28 #[.string (str L)] w fun e w' => ∃ v', e = .returned (.tuple #[v', .bool (okB (L.map UInt8.toNat))]) ∧ CelOwn w.heap.size v' (getF (L.map UInt8.toNat)) w w' := refGetV_any (str L) hL w
/-- Part i, read again. -/
theorem partGet_any (l : List Cel) (i : Nat) (h : i < (putR l).length) (w : World) :
    Calls Tryz.prog 27 #[.string (str ((putR l).getD i []))] w fun e w' => ∃ v', e = .returned (.tuple #[v', .bool true]) ∧ CelOwn w.heap.size v' (partC l i) w w' := by
  have hm : mayF 0 l = true := by
    rw [put_len] at h
    split at h
    · assumption
    · omega
  have hb := get_back (partC l i) (cel_part hm i)
  have h1 := vecGet_str ((partC l i).map celByte) (by rw [List.length_map, partC_len]; omega) w
  rw [hb.1, hb.2] at h1
  rw [put_get l i h]
  exact h1
theorem getF_small (L : List Nat) : ∀ i, -9223372036854775808 ≤ ((getF L).getD i (0, 0)).2 ∧ ((getF L).getD i (0, 0)).2 ≤ 9223372036854775807 := by
  intro i
  refine getD_prop (P := fun c : Cel => -9223372036854775808 ≤ c.2 ∧ c.2 ≤ 9223372036854775807) (fun c hc => ?_) (by decide) i
  unfold getF at hc
  split at hc
  · obtain ⟨b, _, rfl⟩ := List.mem_map.1 hc
    unfold celOf
    simp only
    omega
  · cases hc
theorem getF_len (L : List Nat) : (getF L).length ≤ L.length := by
  unfold getF
  split
  · rw [List.length_map]; exact Nat.le_refl _
  · exact Nat.zero_le _
theorem ofR_small (L : List Int) : ∀ i, -9223372036854775808 ≤ ((ofR L).getD i (0, 0)).2 ∧ ((ofR L).getD i (0, 0)).2 ≤ 9223372036854775807 := by
  intro i
  refine getD_prop (P := fun c : Cel => -9223372036854775808 ≤ c.2 ∧ c.2 ≤ 9223372036854775807) (fun c hc => ?_) (by decide) i
  unfold ofR at hc
  split at hc
  · have := (accOk L [] (fun c hc => by cases hc)).1 c hc
    omega
  · cases hc
theorem ofR_len (L : List Int) : (ofR L).length ≤ L.length := by
  unfold ofR
  split
  · have := (accOk L [] (fun c hc => by cases hc)).2
    simpa using this
  · exact Nat.zero_le _
theorem spreadR_len (l : List Cel) : (spreadR l).length ≤ 1000 := by
  unfold spreadR
  split
  · rename_i h
    have := mayF_len l 0 h (by decide)
    omega
  · simp
theorem spreadR_small (l : List Cel) : ∀ i, -9223372036854775808 ≤ (spreadR l).getD i 0 ∧ (spreadR l).getD i 0 ≤ 9223372036854775807 := by
  intro i
  refine getD_prop (P := fun z : Int => -9223372036854775808 ≤ z ∧ z ≤ 9223372036854775807) (fun z hz => ?_) (by decide) i
  unfold spreadR at hz
  split at hz
  · rename_i h
    obtain ⟨c, hc, hz⟩ := List.mem_flatMap.1 hz
    obtain ⟨k, hk, e⟩ := List.getElem_of_mem hc
    have hb := (celB_run (mayF_all l 0 h k hk)).1
    rw [List.getD_eq_getElem?_getD, List.getElem?_eq_getElem hk, Option.getD_some, e] at hb
    rw [(List.mem_replicate.1 hz).2]
    unfold stB at hb
    simp at hb
    omega
  · cases hz
/-- The first m of a row of cells that came in. -/
theorem c2_first {W : World} {p : Option Addr} {n c : Nat} {l : List Cel} (m : Nat) (hm : m ≤ 1073741824) (hl : l.length = n) (hn : n ≤ c) (hc : c ≤ 9223372036854775807) (hs : ∀ x ∈ l, -9223372036854775808 ≤ x.2 ∧ x.2 ≤ 9223372036854775807)
    (h : ∀ i, i < l.length → ∃ b o, p = some ⟨b, o, none⟩ ∧ b < W.heap.size ∧ W.cell? ⟨b, o + i * 2, none⟩ = some (.int .i64 (l.getD i (0, 0)).1) ∧ W.cell? ⟨b, o + i * 2 + 1, none⟩ = some (.int .i64 (l.getD i (0, 0)).2)) :
    ∃ l2 : List Cel, l2.length = min n m ∧ C2At W (.slice p l2.length c) l2 := by
  have hlen : (l.take m).length = min n m := by rw [List.length_take]; omega
  refine ⟨l.take m, hlen, ⟨p, c, rfl, by omega, hc, fun i hi => ?_⟩, by omega, fun i => ?_⟩
  · rw [getD_take_lt _ _ _ _ (by omega)]
    exact h i (by omega)
  · exact getD_prop (P := fun x : Cel => -9223372036854775808 ≤ x.2 ∧ x.2 ≤ 9223372036854775807) (fun x hx => hs x (List.mem_of_mem_take hx)) (by decide) i
end Go.Proofs.YtnffdacajdjeoaaGreatDoor

namespace Go.Proofs.YtnffdacajdjeoaaGreatDoor
open Go.ChangeShapes Go.WideShapes Go.ChangeAt Go.RowKit
set_option linter.unusedVariables false
set_option linter.unusedSimpArgs false

theorem tabW_laid {W : World} {l : List (String × DataW Unit)} (h : laidMet Tryz.prog l W) (hm : ("muleteer/ival.weights", (Rows.laid_muleteer_ival_weights : DataW Unit)) ∈ l) : TabW W := by
  obtain ⟨ps, h, _⟩ := h
  obtain ⟨g, t, cs, fuel, p, hg, ht, hvar, hd⟩ := Lib.LaidVars_reads h _ _ hm
  rw [show (Rows.laid_muleteer_ival_weights : DataW Unit) = Lib.tabData .u64 [5, 5, 5, 5, 4, 3, 2, 1] by kernel_rfl] at hd
  have e : Tryz.prog.globalNamed "muleteer/ival.weights" = some 0 := by kernel_rfl
  obtain rfl := Option.some.inj (e.symm.trans hg)
  obtain rfl : t = 110 := (Option.some.inj ((show (Tryz.prog.globals[0]?).map (·.type) = some 110 by kernel_rfl).symm.trans ht)).symm
  have hc := Lib.cells_of_tab Tryz.underlying110 Tryz.underlying41 (by kernel_rfl) (by kernel_rfl) hd
  obtain ⟨cl⟩ := cs
  simp only at hc
  subst hc
  intro i hi
  have h1 := World.var?_cell e hvar i
  rw [h1]
  obtain rfl | rfl | rfl | rfl | rfl | rfl | rfl | rfl : i = 0 ∨ i = 1 ∨ i = 2 ∨ i = 3 ∨ i = 4 ∨ i = 5 ∨ i = 6 ∨ i = 7 := by omega
  all_goals rfl
end Go.Proofs.YtnffdacajdjeoaaGreatDoor

namespace Go.Proofs.YtnffdacajdjeoaaGreatDoor
open Go.ChangeShapes Go.WideShapes Go.ChangeAt Go.RowKit
set_option linter.unusedVariables false
set_option linter.unusedSimpArgs false

theorem text40 (s : ByteArray) (l : List UInt8) (hs : s.size ≤ maxLen) (hl : s.data.toList.take 40 = l) (w : World) :
    Calls Tryz.prog 19 #[.string s, .int .i64 40] w fun e w' => e = .returned (.string (str l)) ∧ w' = w := by
  have h := text_any s 40 (by omega) hs w
  have e : s.extract 0 (min s.size 40) = str l := by
    rw [str_eq s, str_extract, str_size]
    congr 1
    rw [List.drop_zero, ← hl]
    show s.data.toList.take (min s.data.toList.length 40) = _
    rw [Nat.min_comm, ← List.take_eq_take_min]
  rw [e] at h
  exact h.mono fun e w' h => ⟨h.1, h.2.symm⟩
set_option maxHeartbeats 16000000 in
set_option maxRecDepth 100000 in
theorem vecAll_walk (p : Option Addr) (n cap : Nat) (l : List Cel) (hn : n ≤ cap) (hcap : cap ≤ 9223372036854775807) (hk : l.length = min n 600) (q : Option Addr) (m cap2 : Nat) (ls : List Int) (hm : m ≤ cap2) (hcap2 : cap2 ≤ 9223372036854775807) (hk2 : ls.length = min m 300)
    (s : ByteArray) (hs : s.size ≤ maxLen) (w : World) (hT : TabW w) (hv : C2At w (.slice p l.length cap) l) (hu : I64At w (.slice q ls.length cap2) ls) :
    Calls Tryz.prog 3 #[.slice p n cap, .slice q m cap2, .string s] w fun e w' => e = .returned (.bool true) ∧ Below w.heap.size w w' := by
  have HBG : Hid (∀ W, Below w.heap.size w W → Calls Tryz.prog 18 #[] W fun e w' => e = .returned (.bool true) ∧ Below W.heap.size W w') := Lib.hid (fun W hb => begun8_any W (hT.below hb))
  obtain ⟨lb, hlb, hll⟩ : ∃ lb, s.data.toList.take 40 = lb ∧ lb.length ≤ 40 := ⟨_, rfl, by simp; omega⟩
  have HT : Hid (∀ w : World, Calls Tryz.prog 19 #[.string s, .int .i64 40] w fun e w' => e = .returned (.string (str lb)) ∧ w' = w) := Lib.hid (fun w => text40 s lb hs hlb w)
  have HG1 : Hid (∀ W, Calls Tryz.prog 27 #[.string (str lb)] W fun e w' => ∃ v', e = .returned (.tuple #[v', .bool (okB (lb.map UInt8.toNat))]) ∧ CelOwn W.heap.size v' (getF (lb.map UInt8.toNat)) W w') := Lib.hid (fun W => vecGet_str lb (by omega) W)
  have HG2 : Hid (∀ W, Calls Tryz.prog 28 #[.string (str lb)] W fun e w' => ∃ v', e = .returned (.tuple #[v', .bool (okB (lb.map UInt8.toNat))]) ∧ CelOwn W.heap.size v' (getF (lb.map UInt8.toNat)) W w') := Lib.hid (fun W => refGetV_str lb (by omega) W)
  have HGS : Hid ((getF (lb.map UInt8.toNat)).length ≤ 40 ∧ ∀ i, -9223372036854775808 ≤ ((getF (lb.map UInt8.toNat)).getD i (0, 0)).2 ∧ ((getF (lb.map UInt8.toNat)).getD i (0, 0)).2 ≤ 9223372036854775807) := Lib.hid ⟨Nat.le_trans (getF_len _) (by rw [List.length_map]; exact hll), getF_small _⟩
  generalize str lb = tb at *
  generalize okB (lb.map UInt8.toNat) = okb at *
  generalize getF (lb.map UInt8.toNat) = gl at *
  have hmin : min (n : Int) 600 = (l.length : Int) := by omega
  have hmin2 : min (m : Int) 300 = (ls.length : Int) := by omega
  have hl1 : l.length ≤ 600 ∧ l.length ≤ n ∧ l.length ≤ cap := by omega
  have hl2 : ls.length ≤ 300 ∧ ls.length ≤ m ∧ ls.length ≤ cap2 := by omega
  have HV := Lib.hid hv
  have HU := Lib.hid hu
  have HMR := Lib.hid (fun W (hb : Below w.heap.size w W) => refMay8_any _ l W (hv.below hb))
  have HMV := Lib.hid (fun W (hb : Below w.heap.size w W) => vecMay_any _ l W (hv.below hb))
  have HPU := Lib.hid (fun W (hb : Below w.heap.size w W) => vecPut_any _ l W (hv.below hb) (by omega))
  have HVE := Lib.hid (fun W (hb : Below w.heap.size w W) => refVector_any _ l W (hv.below hb) (by omega))
  have HO1 := Lib.hid (fun W (hb : Below w.heap.size w W) => vecOf_any _ ls W (hu.below hb))
  have HO2 := Lib.hid (fun W (hb : Below w.heap.size w W) => refOf_any _ ls W (hu.below hb))
  have HS1 := Lib.hid (fun W (hb : Below w.heap.size w W) => vecSpread_any _ l W (hv.below hb))
  have HS2 := Lib.hid (fun W (hb : Below w.heap.size w W) => refSpread_any _ l W (hv.below hb))
  obtain ⟨K, hK⟩ : ∃ K, (putR l).length = K := ⟨_, rfl⟩
  have HKP := Lib.hid hK
  have hK2 := put_len l
  rw [hK] at hK2
  rw [put_vec] at HVE
  have HOS : Hid ((ofR ls).length ≤ 300 ∧ ∀ i, -9223372036854775808 ≤ ((ofR ls).getD i (0, 0)).2 ∧ ((ofR ls).getD i (0, 0)).2 ≤ 9223372036854775807) := Lib.hid ⟨Nat.le_trans (ofR_len _) (by omega), ofR_small _⟩
  generalize ofR ls = ol at *
  have HSS : Hid ((spreadR l).length ≤ 1000 ∧ ∀ i, -9223372036854775808 ≤ (spreadR l).getD i 0 ∧ (spreadR l).getD i 0 ≤ 9223372036854775807) := Lib.hid ⟨spreadR_len _, spreadR_small _⟩
  generalize spreadR l = sl at *
  obtain ⟨M, hM⟩ : ∃ M, mayF 0 l = M := ⟨_, rfl⟩
  rw [hM] at HMR HMV hK2
  obtain ⟨N1, hN1⟩ : ∃ N1, l.length = N1 := ⟨_, rfl⟩
  obtain ⟨N2, hN2⟩ : ∃ N2, ls.length = N2 := ⟨_, rfl⟩
  have HN1 := Lib.hid hN1
  rw [hN1] at hmin hl1 HMR HMV HPU HVE HS1 HS2 HV hK2
  rw [hN2] at hmin2 hl2 HO1 HO2 HU
  have HMB : Hid (M = true → l.length ≤ 253 * K) := Lib.hid (fun h => by rw [if_pos h] at hK2; omega)
  have HKL : Hid (∀ k, k < K → 253 * k < l.length) := Lib.hid (fun k hk => by
    rw [hN1]
    split at hK2 <;> omega)
  have HMF : Hid (M = false → K = 0) := Lib.hid (fun h => by rw [h] at hK2; exact hK2)
  obtain ⟨a1, a2, a3⟩ := hl1
  obtain ⟨b1, b2, b3⟩ := hl2
  have hK3 : K ≤ 10 := by
    split at hK2 <;> omega
  clear hT hv hu hs hlb hll hk hk2 hM hN1 hN2 hK hK2
  go_enter Tryz.func3, Tryz.ntmps3
  go_upto_region 4 with (go_at_call 18; refine (HBG.out _ (Below.refl _ _)).mono ?_; rintro e w0 ⟨rfl, hb0⟩)
  have HB0 := Lib.hid hb0
  clear hb0
  go_quiet ((go_at_call 19; exact Calls.quiet_of_same (HT.out _)))
  have HB1 : Hid (Below w.heap.size w (w0.drewN nq)) := Lib.hid (bel_trans HB0.out (bel_drewN _ _))
  generalize w0.drewN nq = w1 at *
  clear hmin hmin2 HB0
  go_upto_region 7 with (first
    | (go_at_call 20; (with_reducible refine (HMR.out _ HB1.out).mono ?_); rintro e w2 ⟨rfl, rfl⟩)
    | (go_at_call 21; (with_reducible refine (HPU.out _ HB1.out).mono ?_); rintro e w3 ⟨v1, rfl, ho1⟩; have hb3 := bel_trans HB1.out ho1.2.1)
    | (go_at_call 22; (with_reducible refine (HVE.out _ hb3).mono ?_); rintro e w4 ⟨v2, rfl, ho2⟩))
  have HB4 : Hid (Below w.heap.size w w4) := Lib.hid (bel_trans HB1.out (bel_trans ho1.2.1 ho2.2.1))
  have HP1 : Hid (StAt w4 v1 (putR l)) := Lib.hid (ho1.at.below ho2.2.1)
  have HP2 : Hid (StAt w4 v2 (putR l)) := Lib.hid ho2.at
  clear ho1 ho2
  obtain ⟨p1, c1, hv1, d1, d2, HC1⟩ := HP1.out.at_
  obtain ⟨p2, c2, hv2, d3, d4, HC2⟩ := HP2.out.at_
  subst hv1
  subst hv2
  rw [HKP.out] at HP1 HP2 d1 d3 HC1 HC2 ⊢
  have HC1 := Lib.hid HC1
  have HC2 := Lib.hid HC2
  go_upto_region 9 with (first
    | (go_at_call 23; (with_reducible refine (HMV.out _ HB4.out).mono ?_); rintro e w5 ⟨rfl, hb5⟩; have hb5' := bel_trans HB4.out hb5)
    | (go_at_call 25; (with_reducible refine (HO1.out _ hb5').mono ?_); rintro e w6 ⟨v3, rfl, ho3⟩; have hb6 := bel_trans hb5' ho3.2.1)
    | (go_at_call 26; (with_reducible refine (HO2.out _ hb6).mono ?_); rintro e w7 ⟨v4, rfl, ho4⟩; have hb7 := bel_trans hb6 ho4.2.1; have hat3 := (ho3.at (by have := HOS.out.1; omega) HOS.out.2).below ho4.2.1; have hat4 := ho4.at (by have := HOS.out.1; omega) HOS.out.2)
    | (go_at_call 24; (with_reducible refine (cells_any v3 v4 ol ol w7 hat3 hat4).mono ?_); rintro e w8 ⟨rfl, n8, rfl⟩))
  have hb4 : Below w4.heap.size w4 (w7.drewN n8) := bel_trans (bel_trans (bel_trans hb5 ho3.2.1) ho4.2.1) (bel_drewN _ _)
  have HBL : Hid (Below w.heap.size w (w7.drewN n8)) := Lib.hid (bel_trans hb7 (bel_drewN _ _))
  have HD1 : Hid (∀ i, i < K → ∃ g, p1 = some ⟨g, 0, none⟩ ∧ g < (w7.drewN n8).heap.size ∧ (w7.drewN n8).cell? ⟨g, i, none⟩ = some (.string (str ((putR l).getD i [])))) := Lib.hid (fun i hi => by
    obtain ⟨g, e, h1, h2⟩ := HC1.out i hi
    exact ⟨g, e, Nat.lt_of_lt_of_le h1 hb4.size, (hb4.cell (p := ⟨g, i, none⟩) h1).trans h2⟩)
  have HD2 : Hid (∀ i, i < K → ∃ g, p2 = some ⟨g, 0, none⟩ ∧ g < (w7.drewN n8).heap.size ∧ (w7.drewN n8).cell? ⟨g, i, none⟩ = some (.string (str ((putR l).getD i [])))) := Lib.hid (fun i hi => by
    obtain ⟨g, e, h1, h2⟩ := HC2.out i hi
    exact ⟨g, e, Nat.lt_of_lt_of_le h1 hb4.size, (hb4.cell (p := ⟨g, i, none⟩) h1).trans h2⟩)
  generalize w7.drewN n8 = wL at *
  clear hb3 hb5 hb5' hb6 hb7 ho3 ho4 hat3 hat4 hb4 HP1 HP2 HC1 HC2 HB1 HB4 HPU HVE HO1 HO2 HMV HMR HOS HU
  go_wp2
  go_loopw [11, 64] (fun v i wr => ∃ k : Nat, i = .int .i64 (k : Int) ∧ k ≤ K ∧ Hid (CelOwn wL.heap.size v (l.take (253 * k)) wL wr)) (fun _ i _ => K - (intOf i).toNat)
  case atStart => exact ⟨0, rfl, Nat.zero_le _, Lib.hid (CelOwn.nil wL)⟩
  case round =>
    obtain ⟨k, rfl, hk, hown⟩ := hrel
    by_cases hkK : k < K
    · obtain ⟨g1, rfl, e1, x1⟩ := HD1.out k hkK
      obtain ⟨g2, rfl, e2, x2⟩ := HD2.out k hkK
      have hbr := hown.out.2.1
      have f1 : g1 < wr.heap.size := Nat.lt_of_lt_of_le e1 hbr.size
      have f2 : g2 < wr.heap.size := Nat.lt_of_lt_of_le e2 hbr.size
      rw [← hbr.cell (p := ⟨g1, k, none⟩) e1] at x1
      rw [← hbr.cell (p := ⟨g2, k, none⟩) e2] at x2
      have HGT := Lib.hid (fun W => partGet_any l k (by rw [HKP.out]; exact hkK) W)
      generalize str ((putR l).getD k []) = tx at *
      clear hbr e1 e2
      go_upto_region 14 with (go_at_call 27; (with_reducible refine (HGT.out _).mono ?_); rintro e w9 ⟨v5, rfl, ho5⟩)
      have y1 := (ho5.2.1.cell (p := ⟨g1, k, none⟩) f1).trans x1
      have y2 := (ho5.2.1.cell (p := ⟨g2, k, none⟩) f2).trans x2
      clear x1 x2
      go_quiet (fail)
      have HOW : Hid (CelOwn wL.heap.size u11 (l.take (253 * k)) wL (w9.drewN nq)) := Lib.hid ((hown.out.kept ho5.2.1).kept (bel_drewN _ _))
      have HO5 : Hid (CelOwn wr.heap.size v5 (partC l k) wr (w9.drewN nq)) := Lib.hid (ho5.kept (bel_drewN _ _))
      clear y1 y2 ho5 hown
      generalize w9.drewN nq = w10 at *
      go_upto_region 17 with (at_builtin; refine wp_cels rfl _ _ rfl wL.heap.size u11 (l.take (253 * k)) rfl wL w10 HOW.out wr.heap.size v5 (partC l k) wr HO5.out (by rw [partC_len]; have := HKL.out k hkK; omega) rfl (by rw [List.length_take]; have := HN1.out; omega) (by rw [partC_len]; omega) ?_; intro v6 w11 ho6)
      have HO6 : Hid (CelOwn wL.heap.size v6 (l.take (253 * (k + 1))) wL w11) := Lib.hid (by rw [part_take]; exact ho6)
      clear ho6 HOW HO5
      go_wp2
      refine ⟨⟨k + 1, by go_num, by omega, HO6⟩, ?_⟩
      simp [intOf]; omega
    · obtain rfl : k = K := by omega
      obtain ⟨wR, rfl⟩ : ∃ wR : World, wR = wr := ⟨_, rfl⟩
      have HBK : Hid (Below w.heap.size w wR) := Lib.hid (bel_trans HBL.out hown.out.2.1)
      have HBX : Hid (M = true → ∀ W, Below wR.heap.size wR W → C2At W u11 l) := Lib.hid (fun h W hW => by
        have ht : l.take (253 * k) = l := List.take_of_length_le (HMB.out h)
        have h1 := hown.out
        rw [ht] at h1
        exact (h1.at (by have := HN1.out; omega) (fun i => HV.out.small i)).below hW)
      have HVW : Hid (∀ W, Below wR.heap.size wR W → C2At W (.slice p N1 cap) l) := Lib.hid (fun W hW => HV.out.below (bel_trans HBK.out hW))
      clear hown HD1 HD2 HBL HKL HMB
      go_upto_region 21 with (first
        | (go_at_call 27; (with_reducible refine (HG1.out _).mono ?_); rintro e w12 ⟨v7, rfl, ho7⟩; have hb12 := bel_trans HBK.out ho7.2.1)
        | (go_at_call 28; (with_reducible refine (HG2.out _).mono ?_); rintro e w13 ⟨v8, rfl, ho8⟩; have hb13 := bel_trans hb12 ho8.2.1)
        | (go_at_call 29; (with_reducible refine (HS1.out _ hb13).mono ?_); rintro e w14 ⟨v9, rfl, ho9⟩; have hb14 := bel_trans hb13 ho9.2.1)
        | (go_at_call 30; (with_reducible refine (HS2.out _ hb14).mono ?_); rintro e w15 ⟨v10, rfl, ho10⟩))
      have hat7 : C2At w15 v7 gl := (((ho7.at (by have := HGS.out.1; omega) HGS.out.2).below ho8.2.1).below ho9.2.1).below ho10.2.1
      have hat8 : C2At w15 v8 gl := ((ho8.at (by have := HGS.out.1; omega) HGS.out.2).below ho9.2.1).below ho10.2.1
      have hat9 : I64At w15 v9 sl := (ho9.at (by have := HSS.out.1; omega) HSS.out.2).below ho10.2.1
      have hat10 : I64At w15 v10 sl := ho10.at (by have := HSS.out.1; omega) HSS.out.2
      have hb15 : Below wR.heap.size wR w15 := bel_trans (bel_trans (bel_trans ho7.2.1 ho8.2.1) ho9.2.1) ho10.2.1
      obtain ⟨pa, ca, rfl, g1, g2, HA⟩ := hat9.at_
      obtain ⟨pb, cb, rfl, g3, g4, HB⟩ := hat10.at_
      have hL3 := HSS.out.1
      obtain ⟨L, hL⟩ : ∃ L, sl.length = L := ⟨_, rfl⟩
      rw [hL] at HA HB hL3 g1 g3 ⊢
      have HA := Lib.hid HA
      have HB := Lib.hid HB
      clear hb12 hb13 hb14 ho7 ho8 ho9 ho10 hat9 hat10 hL HG1 HG2 HS1 HS2
      cases M with
      | false =>
        have hk0 := HMF.out rfl
        subst hk0
        go_upto_region 23 with (go_at_call 24; (with_reducible refine (cells_any v7 v8 gl gl w15 hat7 hat8).mono ?_); rintro e w16 ⟨rfl, n16, rfl⟩)
        have hbz3 : Below w15.heap.size w15 (w15.drewN n16) := bel_drewN _ _
        have hbz2 := bel_trans hb15 hbz3
        generalize w15.drewN n16 = wz at *
        clear hat7 hat8 hb15
        have HZ : Hid (Below wR.heap.size wR wz) := Lib.hid hbz2
        have HA2 : Hid (∀ i, i < L → ∃ b o, pa = some ⟨b, o, none⟩ ∧ b < wz.heap.size ∧ wz.cell? ⟨b, o + i, none⟩ = some (.int .i64 (sl.getD i 0))) := Lib.hid (fun i hi => by
          obtain ⟨b, o, e, h1, h2⟩ := HA.out i hi
          exact ⟨b, o, e, Nat.lt_of_lt_of_le h1 hbz3.size, (hbz3.cell (p := ⟨b, o + i, none⟩) h1).trans h2⟩)
        have HB2 : Hid (∀ i, i < L → ∃ b o, pb = some ⟨b, o, none⟩ ∧ b < wz.heap.size ∧ wz.cell? ⟨b, o + i, none⟩ = some (.int .i64 (sl.getD i 0))) := Lib.hid (fun i hi => by
          obtain ⟨b, o, e, h1, h2⟩ := HB.out i hi
          exact ⟨b, o, e, Nat.lt_of_lt_of_le h1 hbz3.size, (hbz3.cell (p := ⟨b, o + i, none⟩) h1).trans h2⟩)
        clear hbz2 hbz3 HA HB HVW HBX
        go_wp2
        go_loopw [133] (fun i wx => ∃ j : Nat, i = .int .i64 (j : Int) ∧ j ≤ L ∧ Hid (Below wz.heap.size wz wx)) (fun i _ => L - (intOf i).toNat)
        case atStart => exact ⟨0, rfl, by omega, Lib.hid (Below.refl _ _)⟩
        case round =>
          obtain ⟨j, rfl, hj, hbx⟩ := hrel
          obtain ⟨wx, rfl⟩ : ∃ wx : World, wx = wr := ⟨_, rfl⟩
          by_cases hjL : j < L
          · obtain ⟨b1, o1, e1, q1, r1⟩ := HA2.out j hjL
            obtain ⟨b2, o2, e2, q2, r2⟩ := HB2.out j hjL
            rw [← hbx.out.cell (p := ⟨b1, o1 + j, none⟩) q1] at r1
            rw [← hbx.out.cell (p := ⟨b2, o2 + j, none⟩) q2] at r2
            subst e1
            subst e2
            generalize sl.getD j 0 = x at *
            clear q1 q2
            go_upto_region 26 with fail
            go_quiet (fail)
            have HBQ : Hid (Below wz.heap.size wz (wx.drewN nq)) := Lib.hid (bel_trans hbx.out (bel_drewN _ _))
            clear r1 r2 hbx
            generalize wx.drewN nq = wy at *
            go_wp2
            refine ⟨⟨j + 1, by go_num, by omega, HBQ⟩, ?_⟩
            simp [intOf]; omega
          · obtain rfl : j = L := by omega
            have HFIN : Hid (Below w.heap.size w wx) := Lib.hid (bel_trans HBK.out (bel_trans HZ.out hbx.out))
            clear hbx
            go_wp2
            go_ret
            exact ⟨rfl, HFIN.out⟩
      | true =>
        go_upto_region 23 with (first
          | (go_at_call 24; (with_reducible refine (cells_any u11 _ l l _ hbu hbv).mono ?_); rintro e w17 ⟨rfl, n17, rfl⟩)
          | (go_at_call 24; (with_reducible refine (cells_any v7 v8 gl gl w15 hat7 hat8).mono ?_); rintro e w16 ⟨rfl, n16, rfl⟩; have hbu := HBX.out rfl _ (bel_trans hb15 (bel_drewN w15 n16)); have hbv := HVW.out _ (bel_trans hb15 (bel_drewN w15 n16))))
        have hbz3 : Below w15.heap.size w15 (w15.drewN (n16 + n17)) := bel_drewN _ _
        have hbz2 := bel_trans hb15 hbz3
        clear hbu hbv
        generalize w15.drewN (n16 + n17) = wz at *
        clear hat7 hat8 hb15
        have HZ : Hid (Below wR.heap.size wR wz) := Lib.hid hbz2
        have HA2 : Hid (∀ i, i < L → ∃ b o, pa = some ⟨b, o, none⟩ ∧ b < wz.heap.size ∧ wz.cell? ⟨b, o + i, none⟩ = some (.int .i64 (sl.getD i 0))) := Lib.hid (fun i hi => by
          obtain ⟨b, o, e, h1, h2⟩ := HA.out i hi
          exact ⟨b, o, e, Nat.lt_of_lt_of_le h1 hbz3.size, (hbz3.cell (p := ⟨b, o + i, none⟩) h1).trans h2⟩)
        have HB2 : Hid (∀ i, i < L → ∃ b o, pb = some ⟨b, o, none⟩ ∧ b < wz.heap.size ∧ wz.cell? ⟨b, o + i, none⟩ = some (.int .i64 (sl.getD i 0))) := Lib.hid (fun i hi => by
          obtain ⟨b, o, e, h1, h2⟩ := HB.out i hi
          exact ⟨b, o, e, Nat.lt_of_lt_of_le h1 hbz3.size, (hbz3.cell (p := ⟨b, o + i, none⟩) h1).trans h2⟩)
        clear hbz2 hbz3 HA HB HVW HBX
        go_wp2
        go_loopw [133] (fun i wx => ∃ j : Nat, i = .int .i64 (j : Int) ∧ j ≤ L ∧ Hid (Below wz.heap.size wz wx)) (fun i _ => L - (intOf i).toNat)
        case atStart => exact ⟨0, rfl, by omega, Lib.hid (Below.refl _ _)⟩
        case round =>
          obtain ⟨j, rfl, hj, hbx⟩ := hrel
          obtain ⟨wx, rfl⟩ : ∃ wx : World, wx = wr := ⟨_, rfl⟩
          by_cases hjL : j < L
          · obtain ⟨b1, o1, e1, q1, r1⟩ := HA2.out j hjL
            obtain ⟨b2, o2, e2, q2, r2⟩ := HB2.out j hjL
            rw [← hbx.out.cell (p := ⟨b1, o1 + j, none⟩) q1] at r1
            rw [← hbx.out.cell (p := ⟨b2, o2 + j, none⟩) q2] at r2
            subst e1
            subst e2
            generalize sl.getD j 0 = x at *
            clear q1 q2
            go_upto_region 26 with fail
            go_quiet (fail)
            have HBQ : Hid (Below wz.heap.size wz (wx.drewN nq)) := Lib.hid (bel_trans hbx.out (bel_drewN _ _))
            clear r1 r2 hbx
            generalize wx.drewN nq = wy at *
            go_wp2
            refine ⟨⟨j + 1, by go_num, by omega, HBQ⟩, ?_⟩
            simp [intOf]; omega
          · obtain rfl : j = L := by omega
            have HFIN : Hid (Below w.heap.size w wx) := Lib.hid (bel_trans HBK.out (bel_trans HZ.out hbx.out))
            clear hbx
            go_wp2
            go_ret
            exact ⟨rfl, HFIN.out⟩
end Go.Proofs.YtnffdacajdjeoaaGreatDoor
