/-
  Package sent: a Hear of three, and how many are out.
-/
import Derived.Test.YtbiglbclifbmhaaGreatDoorSnD
import Derived.Test.YtbiglbclifbmhaaGreatDoorVecD
import Derived.Test.YtbiglbclifbmhaaGreatDoorVecG
namespace Go.Proofs.YtbiglbclifbmhaaGreatDoor
open Go.ChangeShapes Go.WideShapes Go.ChangeAt Go.RowKit
set_option linter.unusedVariables false
set_option linter.unusedSimpArgs false

theorem ownsRow_keptC {T sz n B : Nat} {v : Value} {xs : List Value} {S : List Nat} {w w' : World} (h : w.ownsRow B T sz v n xs) (k : Kept S w w') (hn : ∀ g, v.ownBlock = some g → g ∉ S) : w'.ownsRow B T sz v n xs := by
  refine ⟨h.1, ?_⟩
  rcases h.2 with hv | ⟨g, cap, cur, rfl, hb, hg, rest⟩
  · exact .inl hv
  · exact .inr ⟨g, cap, cur, rfl, hb, (k.block g (Array.getElem?_eq_some_iff.1 hg).1 (hn g rfl)).trans hg, rest⟩
def hrL : Nat → List Rec
  | 0 => [(5, 0, 0), (6, 10, 0), (7, 20, 0)]
  | 1 => [(5, 0, 1), (6, 10, 0), (7, 20, 0)]
  | 2 => [(5, 0, 1), (6, 10, 0), (7, 20, 0)]
  | _ => [(5, 0, 1), (6, 10, 0), (7, 20, 1)]
def hrG : Nat → List Nat
  | 0 => []
  | 1 => [5]
  | 2 => [5]
  | _ => [5, 7]
def hrM : Nat → Int
  | 0 => 0
  | 1 => 0
  | 2 => 0
  | _ => 1
def hrR : Nat → Int
  | 0 => -1
  | 1 => 120
  | 2 => 120
  | _ => 100
theorem hrL_len (k : Nat) : (hrL k).length = 3 := by rcases k with _ | _ | _ | k <;> rfl
/-- Hear's loop, before its round k. -/
structure HearI (k : Nat) (C g c H S0 B : Nat) (vT : Value) (w5 wr : World) : Prop where
  recs : RecsAt (hrL k) C g c wr
  heard : ∃ vG, HeardAt (hrG k) vG (hrM k) (hrR k) H wr ∧ ∀ q, vG.ownBlock = some q → S0 ≤ q
  told : wr.ownsRow B 3 1 vT 3 (List.map i64V [1, 3, 0])
  kept : Kept [H, g] w5 wr
theorem HeardAt.drewN {gs : List Nat} {vG : Value} {m r : Int} {H : Nat} {w : World} (h : HeardAt gs vG m r H w) (k : Nat) : HeardAt gs vG m r H (w.drewN k) :=
  ⟨h.blk.drewN k, ownsRow_keptC h.row ((Kept.refl [] w).drewN k) (by simp), h.ne⟩
theorem HearI.drew {k C g c H S0 B : Nat} {vT : Value} {w5 wr : World} (h : HearI k C g c H S0 B vT w5 wr) (n : Nat) : HearI k C g c H S0 B vT w5 (wr.drewN n) := by
  obtain ⟨vG, h1, h2⟩ := h.heard
  exact ⟨h.recs.below (bel_drewN wr n), ⟨vG, h1.drewN n, h2⟩, ownsRow_keptC h.told ((Kept.refl [] wr).drewN n) (by simp), h.kept.drewN n⟩
/-- What take leaves behind. -/
theorem HearI.step {k k2 C g c H S0 B j n : Nat} {t : Int} {vT vG : Value} {w5 wr W w' : World} {q cq : Nat} (h : HearI k C g c H S0 B vT w5 wr) (hS : w5.heap.size = S0) (hB : H < B ∧ g < B ∧ C ≠ H ∧ C < S0 ∧ g ≠ H ∧ g < S0) (hvG : ∀ q, vG.ownBlock = some q → S0 ≤ q) (hj : (hrL k)[j]? = some (n, t, 0)) (hl2 : hrL k2 = (hrL k).set j (n, t, 1))
    (hw : w' = W.setCell ⟨g, j * 3 + 2, none⟩ (.int .i64 1)) (hh : HeardAt (hrG k2) (.slice (some ⟨q, 0, none⟩) (hrG k2).length cq) (hrM k2) (hrR k2) H w') (hk : Kept (H :: own vG) wr W) (hq : vG.ownBlock = some q ∨ wr.heap.size ≤ q) (hTS : ∀ b, vT.ownBlock = some b → B ≤ b ∧ b < S0) : HearI k2 C g c H S0 B vT w5 w' := by
  have hsz := h.kept.size
  have hCn : C ∉ H :: own vG := by
    intro hm
    rcases List.mem_cons.1 hm with e | e
    · exact hB.2.2.1 e
    · cases hv : vG.ownBlock with
      | none => rw [own, hv] at e; cases e
      | some x => rw [own, hv] at e; simp at e; have := hvG x hv; omega
  have hgn : g ∉ H :: own vG := by
    intro hm
    rcases List.mem_cons.1 hm with e | e
    · exact hB.2.2.2.2.1 e
    · cases hv : vG.ownBlock with
      | none => rw [own, hv] at e; cases e
      | some x => rw [own, hv] at e; simp at e; have := hvG x hv; omega
  refine ⟨?_, ⟨_, hh, fun q2 h2 => ?_⟩, ?_, ?_⟩
  · rw [hw, hl2]
    exact (h.recs.kept hk hCn hgn).setSt j n t 0 1 hj
  · have : q = q2 := by simpa [Value.ownBlock] using h2
    subst this
    rcases hq with e | e
    · exact hvG _ e
    · omega
  · rw [hw]
    refine ownsRow_keptC (ownsRow_keptC h.told hk (fun b hb hm => ?_)) ((Kept.refl [g] W).setCell (.inl (by simp)) _) (fun b hb => by have := hTS b hb; simp; omega)
    have := hTS b hb
    rcases List.mem_cons.1 hm with e | e
    · omega
    · cases hv : vG.ownBlock with
      | none => rw [own, hv] at e; cases e
      | some x => rw [own, hv] at e; simp at e; have := hvG x hv; omega
  · rw [hw]
    refine (h.kept.trans hk (fun x hx => ?_)).setCell (.inl (by simp)) _
    rcases List.mem_cons.1 hx with e | e
    · left; simp [e]
    · right
      cases hv : vG.ownBlock with
      | none => rw [own, hv] at e; cases e
      | some x2 => rw [own, hv] at e; simp at e; have := hvG x2 hv; omega
set_option maxRecDepth 100000 in
set_option maxHeartbeats 4000000 in
theorem sentHear_three (C g c : Nat) (v : Value) (w : World) (h : RecsAt (hrL 0) C g c w) (hv : C2At w v [(1, 1), (3, 1), (0, 1)]) :
    Calls Tryz.prog 23 #[.pointer (some ⟨C, 0, none⟩), .int .u64 7, v, .int .i64 120] w fun e w' => ∃ q cG, e = .returned (.agg (heardCells (.slice (some ⟨q, 0, none⟩) 2 cG) 1 100)) ∧ RecsAt (hrL 3) C g c w' ∧ Kept [g] w w' := by
  have kW : Kept [] w ((w.alloc (.cells (heardCells (.slice none 0 0) 0 0) 57)).alloc (.cells (heardCells (.slice none 0 0) 0 (-1)) 57)) := ((Kept.refl [] w).alloc _).alloc _
  have b8 : BlkIs (heardCells (.slice none 0 0) 0 0) 57 w.heap.size ((w.alloc (.cells (heardCells (.slice none 0 0) 0 0) 57)).alloc (.cells (heardCells (.slice none 0 0) 0 (-1)) 57)) := (BlkIs.new _ _ _).alloc _
  have b9 : BlkIs (heardCells (.slice none 0 0) 0 (-1)) 57 (w.heap.size + 1) ((w.alloc (.cells (heardCells (.slice none 0 0) 0 0) 57)).alloc (.cells (heardCells (.slice none 0 0) 0 (-1)) 57)) := by
    have := BlkIs.new (heardCells (.slice none 0 0) 0 (-1)) 57 (w.alloc (.cells (heardCells (.slice none 0 0) 0 0) 57))
    rw [World.size_alloc] at this
    exact this
  have HV := Lib.hid (hv.below kW.below0)
  have H0 := Lib.hid (h.below kW.below0)
  have HLT : Hid (g < w.heap.size ∧ C < w.heap.size ∧ g ≠ C) := Lib.hid ⟨h.lt, h.blk.lt, h.ne⟩
  obtain ⟨p, cap, rfl, _⟩ := hv.at_
  unfold heardCells at b8 b9 kW HV H0
  have K8 := Lib.hid b8
  have K9 := Lib.hid b9
  have KW := Lib.hid kW
  clear h hv b8 b9 kW
  go_enter Tryz.func23, Tryz.ntmps23
  go_upto_region 2 with fail
  generalize (w.alloc (Obj.cells #[Value.slice none 0 0, .slice none 0 0, .slice none 0 0, .int .i64 0, .int .i64 0] 57)).alloc (Obj.cells #[Value.slice none 0 0, .slice none 0 0, .slice none 0 0, .int .i64 0, .int .i64 (-1)] 57) = W1 at *
  obtain ⟨A, hA⟩ : ∃ A, w.heap.size = A := ⟨_, rfl⟩
  have HA := Lib.hid hA
  rw [hA] at K8 K9 HLT ⊢
  clear hA
  have HM : Hid (Calls Tryz.prog 55 #[.slice p 3 cap] W1 fun e w' => e = .returned (.bool true) ∧ Below W1.heap.size W1 w') := Lib.hid (vecMay_any _ _ W1 HV.out)
  have HS : Hid (∀ W, Below W1.heap.size W1 W → Calls Tryz.prog 56 #[.slice p 3 cap] W fun e w' => ∃ v', e = .returned v' ∧ I64Own W.heap.size v' [1, 3, 0] W w') := Lib.hid (fun W hb => vecSpread_any _ _ W (HV.out.below hb))
  have HDf : Hid ((∀ W, Calls Tryz.prog 41 #[.int .u64 7, .int .u64 5] W fun e w' => e = .returned (.int .i64 2) ∧ W = w') ∧ (∀ W, Calls Tryz.prog 41 #[.int .u64 7, .int .u64 6] W fun e w' => e = .returned (.int .i64 1) ∧ W = w') ∧ (∀ W, Calls Tryz.prog 41 #[.int .u64 7, .int .u64 7] W fun e w' => e = .returned (.int .i64 0) ∧ W = w')) := Lib.hid ⟨fun W => seqDiff_any 7 5 (by decide) (by decide) W, fun W => seqDiff_any 7 6 (by decide) (by decide) W, fun W => seqDiff_any 7 7 (by decide) (by decide) W⟩
  go_upto_region 5 with (first
    | (go_at_call 55; (with_reducible refine HM.out.mono ?_); rintro e W2 ⟨rfl, hb2⟩)
    | (go_at_call 56; (with_reducible refine (HS.out _ hb2).mono ?_); rintro e W3 ⟨vT, rfl, hT⟩))
  obtain ⟨q0, cT, hqv, hq1, hq2⟩ : ∃ q0 cT, vT = .slice (some ⟨q0, 0, none⟩) 3 cT ∧ W2.heap.size ≤ q0 ∧ q0 < W3.heap.size := hT.1.form (by decide)
  subst hqv
  have HI0 : Hid (HearI 0 C g c (A + 1) W3.heap.size W2.heap.size (.slice (some ⟨q0, 0, none⟩) 3 cT) W3 W3) := Lib.hid
    ⟨(H0.out.below hb2).below hT.2.1, ⟨.slice none 0 0, ⟨(K9.out.below hb2).below hT.2.1, World.ownsRow_nil _ _ _ _, fun q hq => by cases hq⟩, fun q hq => by cases hq⟩, hT.1, Kept.refl _ _⟩
  have HK8 : Hid (BlkIs #[Value.slice none 0 0, .slice none 0 0, .slice none 0 0, .int .i64 0, .int .i64 0] 57 A W3) := Lib.hid ((K8.out.below hb2).below hT.2.1)
  have HKW : Hid (Kept [] w W3) := Lib.hid ((KW.out.trans' (Kept.of_below [] hb2)).trans' (Kept.of_below [] hT.2.1))
  have HSZ : Hid (A + 1 < W2.heap.size ∧ W2.heap.size ≤ W3.heap.size ∧ q0 < W3.heap.size ∧ W2.heap.size ≤ q0) := Lib.hid ⟨(K9.out.below hb2).lt, hT.2.1.size, hq2, hq1⟩
  have c0 : W3.cell? ⟨C, 0, none⟩ = some (.slice (some ⟨g, 0, none⟩) 3 c) := HI0.out.recs.blk.cell 0
  clear hT hb2 hq1 hq2
  go_upto_region 6 with fail
  have HTold0 : ∀ W, W.ownsRow W2.heap.size 3 1 (.slice (some ⟨q0, 0, none⟩) 3 cT) 3 (List.map i64V [1, 3, 0]) → I64At W (.slice (some ⟨q0, 0, none⟩) 3 cT) [1, 3, 0] := fun W hW => by
    refine ⟨?_, by decide, fun i => ?_⟩
    · rcases hW.2 with ⟨hn, h0⟩ | ⟨g', cap', cur, hv, _, hg, hcap, hcm, _, ht⟩
      · cases h0
      · injection hv with e1 e2 e3
        injection e1 with e1
        injection e1 with e1
        subst e1 e3
        have hlt : q0 < W.heap.size := (Array.getElem?_eq_some_iff.1 hg).1
        refine ⟨some ⟨q0, 0, none⟩, cT, rfl, hcap, by unfold maxLen at hcm; omega, fun i hi => ⟨q0, 0, rfl, hlt, ?_⟩⟩
        rw [cell_of_row W q0 (0 + i) cur _ _ hg, Nat.zero_add, ← Array.getElem?_toList]
        have h2 : (List.map i64V [1, 3, 0])[i]? = some (.int .i64 (([1, 3, 0] : List Int).getD i 0)) := by
          rw [List.getElem?_map, List.getElem?_eq_getElem hi, List.getD_eq_getElem?_getD, List.getElem?_eq_getElem hi]; rfl
        rw [← ht, List.getElem?_take_of_lt (by simpa using hi)] at h2
        exact h2
    · rcases i with _ | _ | _ | i
      · decide
      · decide
      · decide
      · exact (by decide : -9223372036854775808 ≤ (0 : Int) ∧ (0 : Int) ≤ 9223372036854775807)
  have HTold := HTold0
  clear HTold0 HV H0 K8 K9 KW HM HS
  go_loopw [28] (fun i wr => ∃ k : Nat, k ≤ 3 ∧ i = .int .i64 (k : Int) ∧ HearI k C g c (A + 1) W3.heap.size W2.heap.size (.slice (some ⟨q0, 0, none⟩) 3 cT) W3 wr) (fun i _ => 3 - (intOf i).toNat)
  case atStart => exact ⟨0, by decide, rfl, HI0.out⟩
  case round =>
    obtain ⟨k, hk, rfl, hi⟩ := hrel
    obtain rfl | rfl | rfl | rfl : k = 0 ∨ k = 1 ∨ k = 2 ∨ k = 3 := by omega
    · clear hk HI0 c0
      have hr := hi.recs
      have x0 : wr.cell? ⟨C, 0, none⟩ = some (.slice (some ⟨g, 0, none⟩) 3 c) := hr.blk.cell 0
      have x1 : wr.cell? ⟨g, 0, none⟩ = some (.int .u64 5) := (hr.row 0 (5, 0, 0) rfl).1
      have HI := Lib.hid hi
      have HTV : Hid (I64At (wr.drewN 1) (.slice (some ⟨q0, 0, none⟩) 3 cT) [1, 3, 0]) := Lib.hid (HTold _ (hi.drew 1).told)
      have HSO : Hid (Calls Tryz.prog 58 #[.int .u64 5, .int .u64 7, .slice (some ⟨q0, 0, none⟩) 3 cT] (wr.drewN 1) fun e w' => e = .returned (.int .i64 0) ∧ w' = wr.drewN 1) := Lib.hid (sentStateOf_at 5 7 2 HDf.out.1 _ [1, 3, 0] (by decide) (wr.drewN 1) HTV.out)
      clear hr hi
      go_wp2
      obtain ⟨vG, hh, hvG⟩ := (HI.out.drew 1).heard
      have HTK : Hid (Calls Tryz.prog 57 #[.pointer (some ⟨A + 1, 0, none⟩), .pointer (some ⟨g, 0, none⟩), .int .i64 0, .int .i64 120] (wr.drewN 1) fun e w' => e = .returned (.tuple #[]) ∧ HearI 1 C g c (A + 1) W3.heap.size W2.heap.size (.slice (some ⟨q0, 0, none⟩) 3 cT) W3 w') := Lib.hid (by
        have hr := (HI.out.drew 1).recs
        have hrow := hr.row 0 (5, 0, 0) rfl
        have hlt := HLT.out
        have hsz := HSZ.out
        refine (heardTake_got (hrG 0) (by decide) vG (hrM 0) (hrR 0) (by decide) (by decide) 0 (by decide) 5 0 120 (by decide) (by decide) (by decide) (A + 1) g 0 (wr.drewN 1) hh hrow.1 hrow.2.1 hrow.2.2 (hr.free _) (by omega) (fun q hq => by have := hvG q hq; omega)).mono ?_
        rintro e w' ⟨q, cq, W, rfl, hw, h5, h6, h7⟩
        exact ⟨rfl, HearI.step (k2 := 1) (j := 0) (n := 5) (t := 0) (HI.out.drew 1) rfl ⟨by omega, by omega, by omega, by omega, by omega, by omega⟩ hvG rfl rfl hw h5 h6 h7 (fun b hb => by
          have : q0 = b := by simpa [Value.ownBlock] using hb
          omega)⟩)
      clear hh hvG
      go_region_with (first
        | (go_at_call 58; (refine HSO.out.mono ?_); rintro e w5 ⟨rfl, rfl⟩)
        | (go_at_call 57; (refine HTK.out.mono ?_); rintro e w6 ⟨rfl, hi6⟩))
      all_goals (
        go_wp2
        go_roundw
        case rel => exact ⟨1, by decide, rfl, hi6⟩
        case measure => simp [intOf])
    · clear hk HI0 c0
      have hr := hi.recs
      have x0 : wr.cell? ⟨C, 0, none⟩ = some (.slice (some ⟨g, 0, none⟩) 3 c) := hr.blk.cell 0
      have x1 : wr.cell? ⟨g, 3, none⟩ = some (.int .u64 6) := (hr.row 1 (6, 10, 0) rfl).1
      have HI := Lib.hid hi
      have HTV : Hid (I64At (wr.drewN 1) (.slice (some ⟨q0, 0, none⟩) 3 cT) [1, 3, 0]) := Lib.hid (HTold _ (hi.drew 1).told)
      have HSO : Hid (Calls Tryz.prog 58 #[.int .u64 6, .int .u64 7, .slice (some ⟨q0, 0, none⟩) 3 cT] (wr.drewN 1) fun e w' => e = .returned (.int .i64 3) ∧ w' = wr.drewN 1) := Lib.hid (sentStateOf_at 6 7 1 HDf.out.2.1 _ [1, 3, 0] (by decide) (wr.drewN 1) HTV.out)
      clear hr hi
      go_wp2
      have HTK : Hid (Calls Tryz.prog 57 #[.pointer (some ⟨A + 1, 0, none⟩), .pointer (some ⟨g, 3, none⟩), .int .i64 3, .int .i64 120] (wr.drewN 1) fun e w' => e = .returned (.tuple #[]) ∧ w' = wr.drewN 1) := Lib.hid (heardTake_none (A + 1) g 3 120 (wr.drewN 1))
      have HI2 : Hid (HearI 2 C g c (A + 1) W3.heap.size W2.heap.size (.slice (some ⟨q0, 0, none⟩) 3 cT) W3 (wr.drewN 1)) := Lib.hid ⟨(HI.out.drew 1).recs, (HI.out.drew 1).heard, (HI.out.drew 1).told, (HI.out.drew 1).kept⟩
      go_region_with (first
        | (go_at_call 58; (refine HSO.out.mono ?_); rintro e w5 ⟨rfl, rfl⟩)
        | (go_at_call 57; (refine HTK.out.mono ?_); rintro e w6 ⟨rfl, rfl⟩))
      all_goals (
        go_wp2
        go_roundw
        case rel => exact ⟨2, by decide, rfl, HI2.out⟩
        case measure => simp [intOf])
    · clear hk HI0 c0
      have hr := hi.recs
      have x0 : wr.cell? ⟨C, 0, none⟩ = some (.slice (some ⟨g, 0, none⟩) 3 c) := hr.blk.cell 0
      have x1 : wr.cell? ⟨g, 6, none⟩ = some (.int .u64 7) := (hr.row 2 (7, 20, 0) rfl).1
      have HI := Lib.hid hi
      have HTV : Hid (I64At (wr.drewN 1) (.slice (some ⟨q0, 0, none⟩) 3 cT) [1, 3, 0]) := Lib.hid (HTold _ (hi.drew 1).told)
      have HSO : Hid (Calls Tryz.prog 58 #[.int .u64 7, .int .u64 7, .slice (some ⟨q0, 0, none⟩) 3 cT] (wr.drewN 1) fun e w' => e = .returned (.int .i64 1) ∧ w' = wr.drewN 1) := Lib.hid (sentStateOf_at 7 7 0 HDf.out.2.2 _ [1, 3, 0] (by decide) (wr.drewN 1) HTV.out)
      clear hr hi
      go_wp2
      obtain ⟨vG, hh, hvG⟩ := (HI.out.drew 1).heard
      have HTK : Hid (Calls Tryz.prog 57 #[.pointer (some ⟨A + 1, 0, none⟩), .pointer (some ⟨g, 6, none⟩), .int .i64 1, .int .i64 120] (wr.drewN 1) fun e w' => e = .returned (.tuple #[]) ∧ HearI 3 C g c (A + 1) W3.heap.size W2.heap.size (.slice (some ⟨q0, 0, none⟩) 3 cT) W3 w') := Lib.hid (by
        have hr := (HI.out.drew 1).recs
        have hrow := hr.row 2 (7, 20, 0) rfl
        have hlt := HLT.out
        have hsz := HSZ.out
        refine (heardTake_got (hrG 2) (by decide) vG (hrM 2) (hrR 2) (by decide) (by decide) 1 (by decide) 7 20 120 (by decide) (by decide) (by decide) (A + 1) g 6 (wr.drewN 1) hh hrow.1 hrow.2.1 hrow.2.2 (hr.free _) (by omega) (fun q hq => by have := hvG q hq; omega)).mono ?_
        rintro e w' ⟨q, cq, W, rfl, hw, h5, h6, h7⟩
        exact ⟨rfl, HearI.step (k2 := 3) (j := 2) (n := 7) (t := 20) (HI.out.drew 1) rfl ⟨by omega, by omega, by omega, by omega, by omega, by omega⟩ hvG rfl rfl hw h5 h6 h7 (fun b hb => by
          have : q0 = b := by simpa [Value.ownBlock] using hb
          omega)⟩)
      clear hh hvG
      go_region_with (first
        | (go_at_call 58; (refine HSO.out.mono ?_); rintro e w5 ⟨rfl, rfl⟩)
        | (go_at_call 57; (refine HTK.out.mono ?_); rintro e w6 ⟨rfl, hi6⟩))
      all_goals (
        go_wp2
        go_roundw
        case rel => exact ⟨3, by decide, rfl, hi6⟩
        case measure => simp [intOf])
    · clear hk HI0 c0
      obtain ⟨vG, hh, hvG⟩ := hi.heard
      obtain ⟨q, cG, rfl, _, _⟩ : ∃ q cG, vG = .slice (some ⟨q, 0, none⟩) 2 cG ∧ 0 ≤ q ∧ q < wr.heap.size := hh.row.form (by decide)
      have hlt := HLT.out
      have kA : BlkIs #[Value.slice none 0 0, .slice none 0 0, .slice none 0 0, .int .i64 0, .int .i64 0] 57 A wr := HK8.out.kept hi.kept (by simp; omega)
      have HE : Hid (RecsAt (hrL 3) C g c wr ∧ Kept [A + 1, g] W3 wr) := Lib.hid ⟨hi.recs, hi.kept⟩
      have HKA := Lib.hid kA
      have HKH : Hid (BlkIs #[Value.slice (some ⟨q, 0, none⟩) 2 cG, .slice none 0 0, .slice none 0 0, .int .i64 1, .int .i64 100] 57 (A + 1) wr) := Lib.hid hh.blk
      have HL := Lib.hid (sentLose_few (hrL 3) (by decide) C g c wr hi.recs)
      clear hi hh kA hlt hvG HTold HDf
      go_upto_region 11 with (go_at_call 59; (with_reducible refine HL.out.mono ?_); rintro e W6 ⟨rfl, hb6⟩; have kH6 := HKH.out.below hb6; have z2 : W6.cell? ⟨A + 1, 2, none⟩ = some (.slice none 0 0) := BlkIs.cell kH6 2; have zf := BlkIs.free kH6 2)
      have kA6 := HKA.out.below hb6
      have k10 := kH6.set 2 (.slice none 0 0)
      have H11 : Hid (RecsAt (hrL 3) C g c (W6.setCell ⟨A + 1, 2, none⟩ (.slice none 0 0)) ∧ Kept [A + 1, g] W3 (W6.setCell ⟨A + 1, 2, none⟩ (.slice none 0 0))) := Lib.hid ⟨(HE.out.1.below hb6).kept ((Kept.refl [A + 1] W6).setCell (.inl (by simp)) _) (by simp; have := HLT.out; omega) (by simp; have := HLT.out; omega), (HE.out.2.trans' (Kept.of_below _ hb6)).setCell (.inl (by simp)) _⟩
      have k11 := kA6.far (show A ≠ (⟨A + 1, 2, none⟩ : Addr).block by simp) (.slice none 0 0)
      generalize W6.setCell ⟨A + 1, 2, none⟩ (.slice none 0 0) = W7 at *
      have y0 : W7.cell? ⟨A + 1, 0, none⟩ = some (.slice (some ⟨q, 0, none⟩) 2 cG) := BlkIs.cell k10 0
      have y1 : W7.cell? ⟨A + 1, 1, none⟩ = some (.slice none 0 0) := BlkIs.cell k10 1
      have y2 : W7.cell? ⟨A + 1, 2, none⟩ = some (.slice none 0 0) := BlkIs.cell k10 2
      have y3 : W7.cell? ⟨A + 1, 3, none⟩ = some (.int .i64 1) := BlkIs.cell k10 3
      have y4 : W7.cell? ⟨A + 1, 4, none⟩ = some (.int .i64 100) := BlkIs.cell k10 4
      have v0 : W7.cell? ⟨A, 0, none⟩ = some (.slice none 0 0) := BlkIs.cell k11 0
      have v1 : W7.cell? ⟨A, 1, none⟩ = some (.slice none 0 0) := BlkIs.cell k11 1
      have v2 : W7.cell? ⟨A, 2, none⟩ = some (.slice none 0 0) := BlkIs.cell k11 2
      have v3 : W7.cell? ⟨A, 3, none⟩ = some (.int .i64 0) := BlkIs.cell k11 3
      have v4 : W7.cell? ⟨A, 4, none⟩ = some (.int .i64 0) := BlkIs.cell k11 4
      have vf := BlkIs.free k11
      have K11 := Lib.hid k11
      clear z2 zf kH6 kA6 k10 k11 hb6 HKA HKH HL
      go_wp2
      have kb := ((((K11.out.set 0 (.slice (some ⟨q, 0, none⟩) 2 cG)).set 1 (.slice none 0 0)).set 2 (.slice none 0 0)).set 3 (.int .i64 1)).set 4 (.int .i64 100)
      have kr := ((((((Kept.refl [A] W7).setCell (p := ⟨A, 0, none⟩) (.inl (by simp)) (.slice (some ⟨q, 0, none⟩) 2 cG)).setCell (p := ⟨A, 1, none⟩) (.inl (by simp)) (.slice none 0 0)).setCell (p := ⟨A, 2, none⟩) (.inl (by simp)) (.slice none 0 0)).setCell (p := ⟨A, 3, none⟩) (.inl (by simp)) (.int .i64 1)).setCell (p := ⟨A, 4, none⟩) (.inl (by simp)) (.int .i64 100))
      have hA := HA.out
      have hlt := HLT.out
      refine bodyPost_ret (results_cell_row Tryz.results23 _ _ A 57 (heardCells (.slice (some ⟨q, 0, none⟩) 2 cG) 1 100) (0, 0) _ rfl kb Tryz.underlying57 rfl (by kernel_rfl)) rfl ⟨q, cG, rfl, H11.out.1.kept kr (by simp; omega) (by simp; omega), ?_⟩
      have k1 : Kept [g] w W7 := (HKW.out.more (fun x hx => by cases hx)).trans H11.out.2 (fun x hx => by
        simp at hx
        rcases hx with rfl | rfl
        · right; omega
        · left; simp)
      exact k1.trans kr (fun x hx => by simp at hx; right; omega)
end Go.Proofs.YtbiglbclifbmhaaGreatDoor
