/-
  Package feed: copy and clear of elements of more cells than one; a number further on than the newest.
  Package feed: nothing is lost behind which fewer than three were got.
  Package feed: Put, once a first one was put.
-/
import Derived.Test.YtkpginmdnlhfbaaGreatDoorFdM
import Derived.Test.YtkpginmdnlhfbaaGreatDoorGtM
import Derived.Lib.SliceRun
namespace Go.Proofs.YtkpginmdnlhfbaaGreatDoor
open Go.ChangeShapes Go.WideShapes Go.ChangeAt Go.RowKit
set_option linter.unusedVariables false
set_option linter.unusedSimpArgs false

theorem kept_setCellsF (S : List Nat) {a : World} (b : Nat) (hb : b ∈ S ∨ a.heap.size ≤ b) : ∀ (vs : List Value) (o : Nat) (w : World), Kept S a w → Kept S a (w.setCells b o vs)
  | [], _, _, h => h
  | v :: r, o, w, h => kept_setCellsF S b hb r (o + 1) _ (h.setCell (p := ⟨b, o, none⟩) hb v)
theorem run_copyN {P : Program} (w : World) (dT sT ty elem : TypeId) (k b o dLen dCap : Nat) (a : Addr) (sLen sCap : Nat) (cs : List Value)
    (hu : P.underlying dT = some (.slice elem)) (hs : (P.info? elem).map (·.size) = some k) (hn : cs.length = Nat.min sLen dLen * k)
    (hsrc : ∀ j v, cs[j]? = some v → w.cell? (a.add j) = some v) (hc : ∀ j, j < cs.length → (w.cell? ⟨b, o + j, none⟩).isSome = true) (hf : ∀ j, j < cs.length → w.frozen? ⟨b, o + j, none⟩ = false) (h1 : ∀ v ∈ cs, v.oneCell' = true) :
    (Builtin.copy_ #[dT, sT] ty #[.slice (some ⟨b, o, none⟩) dLen dCap, .slice (some a) sLen sCap]).run P w = .ok (goInt (Nat.min sLen dLen)) (w.setCells b o cs) := by
  have hl := run_loadCells_list (P := P) w a cs hsrc
  rw [hn] at hl
  have hst := run_storeCells_cells (P := P) b o cs 0 w (by simpa using hc) (by simpa using hf) h1
  cases hq : P.info? elem with
  | none => simp [hq] at hs
  | some i =>
    have hi : i.size = k := by simpa [hq] using hs
    simp only [Nat.add_zero] at hst
    simp [Builtin.copy_, run_underlying hu, Builtin.lenOf, Builtin.firstCells, sizeOf, typeInfo, hq, hi, hl, hst]
theorem run_clearN {P : Program} (w : World) (t e ty : TypeId) (z : Value) (zs : List Value) (ht : P.underlying t = some (.slice e)) (hv : ∀ w, (zeroValue e).run P w = .ok z w) (b o n c : Nat) (hn : 0 < n) (hz : (Builtin.zeroCells z.cells n).toList = zs)
    (hc : ∀ j, j < zs.length → (w.cell? ⟨b, o + j, none⟩).isSome = true) (hf : ∀ j, j < zs.length → w.frozen? ⟨b, o + j, none⟩ = false) (h1 : ∀ v ∈ zs, v.oneCell' = true) :
    (Builtin.clear_ #[t] ty #[.slice (some ⟨b, o, none⟩) n c]).run P w = .ok (.tuple #[]) (w.setCells b o zs) := by
  have hst := run_storeCells_cells (P := P) b o zs 0 w (by simpa using hc) (by simpa using hf) h1
  simp only [Nat.add_zero] at hst
  obtain ⟨m, rfl⟩ : ∃ m, n = m + 1 := ⟨n - 1, by omega⟩
  simp [Builtin.clear_, run_underlying ht, hv, hz, hst]
/-- A stretch of a block is written. -/
theorem BlkIs.seg {T : TypeId} {C : Nat} : ∀ (vs mid h t : List Value) (w : World), mid.length = vs.length → BlkIs (h ++ (mid ++ t)).toArray T C w → BlkIs (h ++ (vs ++ t)).toArray T C (w.setCells C h.length vs) := by
  intro vs
  induction vs with
  | nil =>
    intro mid h t w hl hb
    have : mid = [] := List.length_eq_zero_iff.1 hl
    subst this
    exact hb
  | cons v vs ih =>
    intro mid h t w hl hb
    rcases mid with _ | ⟨m, mid⟩
    · simp at hl
    have h1 := hb.set h.length v
    have e : ((h ++ (m :: mid ++ t)).toArray).setIfInBounds h.length v = ((h ++ [v]) ++ (mid ++ t)).toArray := by
      rw [List.setIfInBounds_toArray, List.set_append_right _ _ (Nat.le_refl _), Nat.sub_self]
      simp
    rw [e] at h1
    have h2 := ih mid (h ++ [v]) t _ (by simpa using hl) h1
    rw [List.length_append] at h2
    have e2 : (h ++ [v]) ++ (vs ++ t) = h ++ (v :: vs ++ t) := by simp
    rw [e2] at h2
    exact h2
theorem numList_app (l m : List (Int × Int)) : numList (l ++ m) = numList l ++ numList m := List.flatMap_append
theorem numList_one (l : List (Int × Int)) (v : Value) (h : v ∈ numList l) : v.oneCell' = true := by
  unfold numList at h
  obtain ⟨p, _, hp⟩ := List.mem_flatMap.1 h
  simp at hp
  rcases hp with rfl | rfl <;> rfl
/-- Some of the numbers are written anew. -/
theorem FdAt.seg {s t : FdS} {cl : Value} {C : Nat} {w : World} (h : FdAt s cl C w) (a m m2 c : List (Int × Int)) (hs : s.nums = a ++ (m ++ c)) (ht : t.nums = a ++ (m2 ++ c)) (hl : m.length = m2.length) (e1 : fdHead t = fdHead s) (e2 : fdTail t cl = fdTail s cl) :
    FdAt t cl C (w.setCells C (4 + a.length * 2) (numList m2)) := by
  refine ⟨?_, by have := h.len; rw [hs] at this; rw [ht]; simp at this ⊢; omega⟩
  have h1 := h.blk
  unfold fdCells at h1 ⊢
  rw [hs, numList_app, numList_app, List.append_assoc, List.append_assoc, ← List.append_assoc (fdHead s)] at h1
  have h2 := BlkIs.seg (numList m2) (numList m) (fdHead s ++ numList a) (numList c ++ fdTail s cl) w (by rw [numList_len, numList_len, hl]) h1
  have e3 : (fdHead s ++ numList a).length = 4 + a.length * 2 := by rw [List.length_append, numList_len]; rfl
  rw [e3] at h2
  rw [ht, e1, e2, numList_app, numList_app]
  simpa using h2
theorem FdAt.cells {s : FdS} {cl : Value} {C : Nat} {w : World} (h : FdAt s cl C w) (i : Nat) (hi : i < 511) : (w.cell? ⟨C, i, none⟩).isSome = true := by
  rw [h.blk.cell i]
  have hl := numList_len s.nums
  have hn := h.len
  unfold fdCells
  rw [List.getElem?_toArray, List.getElem?_eq_getElem (by simp [fdHead, fdTail]; omega)]
  rfl
/-- What lies at a stretch of the numbers. -/
theorem FdAt.run {s : FdS} {cl : Value} {C : Nat} {w : World} (h : FdAt s cl C w) (n : Nat) (hn : n ≤ 250) (j : Nat) (v : Value) (hj : (numList (s.nums.take n))[j]? = some v) : w.cell? ⟨C, 4 + j, none⟩ = some v := by
  have hl : (numList (s.nums.take n)).length = n * 2 := by rw [numList_len, List.length_take, h.len]; omega
  have hj2 : j < n * 2 := by
    have := (List.getElem?_eq_some_iff.1 hj).1
    omega
  rw [h.blk.cell]
  unfold fdCells
  rw [List.getElem?_toArray, List.getElem?_append_right (show (4 : Nat) ≤ 4 + j by omega), show 4 + j - (fdHead s).length = j by simp [fdHead]]
  have e : numList s.nums = numList (s.nums.take n) ++ numList (s.nums.drop n) := by rw [← numList_app, List.take_append_drop]
  rw [e, List.append_assoc, List.getElem?_append_left (by omega)]
  exact hj
theorem infoNum : (Tryz.prog.info? 110).map (·.size) = some 2 := by kernel_rfl
theorem zeroNum (w : World) : (zeroValue 110).run Tryz.prog w = .ok (.agg #[.int .i64 0, .int .i64 0]) w := by kernel_rfl
theorem zeroCells_num (k : Nat) : (Builtin.zeroCells (Value.cells (.agg #[.int .i64 0, .int .i64 0])) k).toList = numList (List.replicate k (0, 0)) := by
  have hz : Value.cells (.agg #[.int .i64 0, .int .i64 0]) = #[.int .i64 0, .int .i64 0] := by kernel_rfl
  rw [hz]
  unfold Builtin.zeroCells
  apply List.ext_getElem
  · simp [numList_len]
  · intro i h1 h2
    have h3 : i < k * 2 := by simpa using h1
    have e1 : ∀ i, i < k * 2 → (numList (List.replicate k (0, 0)))[i]? = some (.int .i64 0) := by
      intro i hi
      obtain ⟨g1, g2⟩ := numList_get (List.replicate k (0, 0)) (i / 2) (by simp; omega)
      have e : (List.replicate k ((0 : Int), (0 : Int))).getD (i / 2) (0, 0) = (0, 0) := by
        rw [List.getD_eq_getElem?_getD, List.getElem?_replicate]
        split <;> rfl
      rw [e] at g1 g2
      rcases Nat.mod_two_eq_zero_or_one i with h | h
      · rw [show i / 2 * 2 = i by omega] at g1; exact g1
      · rw [show i / 2 * 2 + 1 = i by omega] at g2; exact g2
    have e2 := e1 i h3
    rw [List.getElem?_eq_getElem h2] at e2
    injection e2 with e2
    rw [e2]
    simp
    rcases Nat.mod_two_eq_zero_or_one i with h | h <;> rw [h] <;> rfl
/-- A number k steps further on is the newest. -/
def FdS.leadN (s : FdS) (y k : Nat) (sp : Int) : FdS := { s with newest := y, nums := List.replicate k (0, 0) ++ s.nums.take (250 - k), span := sp }
set_option maxRecDepth 100000 in
set_option maxHeartbeats 4000000 in
theorem feedLead_any (s : FdS) (cl : Value) (step k y : Nat) (h1 : 1 ≤ step) (h2 : step ≤ 281474976710656) (hk : min step 250 = k) (sp0 sp : Nat) (hs0 : s.span = (sp0 : Int)) (hs1 : sp0 ≤ 250) (hsp : min (sp0 + k) 250 = sp)
    (hy : ∀ W, Calls Tryz.prog 80 #[.int .u64 s.newest, .int .i64 step] W fun e w' => e = .returned (.int .u64 y) ∧ W = w') (C : Nat) (w : World) (h : FdAt s cl C w) :
    Calls Tryz.prog 73 #[.pointer (some ⟨C, 0, none⟩), .int .i64 step] w fun e w' => e = .returned (.tuple #[]) ∧ FdAt (s.leadN y k sp) cl C w' ∧ Kept [C] w w' := by
  have HY := Lib.hid hy
  obtain ⟨m1, m2, m3, m4, m5, m6⟩ := mns step 250 k hk
  have m1' : (if (250 : Int) < (step : Int) then (250 : Int) else (step : Int)) = (k : Int) := m1
  have m2' : (if 250 < step then (250 : Int) else (step : Int)) = (k : Int) := m2
  have m3' : min (step : Int) 250 = (k : Int) := m3
  have hk1 : 1 ≤ k := by omega
  have hk2 : k ≤ 250 := by omega
  have a3 := h.head.2.2.2
  have f3 := h.blk.free 3
  have H1 : Hid (FdAt { s with newest := y } cl C (w.setCell ⟨C, 3, none⟩ (.int .u64 y))) := Lib.hid (h.setHead (t := { s with newest := y }) 3 (by decide) _ rfl rfl rfl)
  have HK1 : Hid (Kept [C] w (w.setCell ⟨C, 3, none⟩ (.int .u64 y))) := Lib.hid ((Kept.refl _ _).setCell (.inl (by simp)) _)
  clear h hy
  go_enter Tryz.func73, Tryz.ntmps73
  go_upto_region 2 with (go_at_call 80; (with_reducible refine (HY.out _).mono ?_); rintro e W1 ⟨rfl, rfl⟩)
  have HK1' := HK1.out
  have h1b := H1.out
  obtain ⟨W1, hW1⟩ : ∃ W1, w.setCell ⟨C, 3, none⟩ (.int .u64 y) = W1 := ⟨_, rfl⟩
  rw [hW1] at H1 HK1 ⊢
  clear HK1' h1b hW1 a3 f3
  obtain ⟨o, ho, ho2⟩ : ∃ o, (if 250 = k then (⟨C, 4, none⟩ : Addr) else Addr.add ⟨C, 4, none⟩ (k * 2)) = ⟨C, o, none⟩ ∧ (k < 250 → o = 4 + k * 2) := by
    by_cases h : 250 = k
    · exact ⟨4, if_pos h, fun h2 => by omega⟩
    · refine ⟨4 + k * 2, ?_, fun _ => rfl⟩
      rw [if_neg h]
      unfold Addr.add
      split
      · omega
      · rfl
  have ht : Tryz.prog.underlying 111 = some (.array (Tryz.prog.arrayLen 111) (Tryz.prog.elem 111)) := by kernel_rfl
  have hal : Tryz.prog.arrayLen 111 = 250 := by kernel_rfl
  have hsz : ∀ W, (sizeOf (Tryz.prog.elem 111)).run Tryz.prog W = .ok 2 W := fun W => by kernel_rfl
  have hsl : ∀ W : World, (Instr.sliceAt 111 (.pointer (some ⟨C, 4, none⟩)) (some (.int .i64 (k : Int))) none none).run Tryz.prog W = .ok (.slice (some ⟨C, o, none⟩) (250 - k) (250 - k)) W := fun W => by
    rw [run_sliceAt_array_l W _ _ ht .i64 (k : Int) (by omega) (by rw [hal]; omega), hsz, hal]
    simp only [Result.andThen_ok, slicedAt, Int.toNat_natCast]
    rw [ho]
  have hsh : ∀ W : World, (Instr.sliceAt 111 (.pointer (some ⟨C, 4, none⟩)) none (some (.int .i64 (k : Int))) none).run Tryz.prog W = .ok (.slice (some ⟨C, 4, none⟩) k 250) W := fun W => by
    rw [run_sliceAt_array_h W _ _ ht .i64 (k : Int) (by omega) (by rw [hal]; omega), hsz, hal]
    simp only [Result.andThen_ok, slicedAt, Int.toNat_natCast, Nat.zero_mul, Nat.sub_zero]
    rw [if_neg (by omega)]
    rfl
  clear ht hal hsz
  have HO := Lib.hid ho2
  clear ho ho2
  have mixed : Tryz.prog.follows .mixedOrders = true := by kernel_rfl
  obtain ⟨n1, hn1⟩ : ∃ n1, s.nums.take k ++ s.nums.take (250 - k) = n1 := ⟨_, rfl⟩
  obtain ⟨n2, hn2⟩ : ∃ n2, List.replicate k (0, 0) ++ s.nums.take (250 - k) = n2 := ⟨_, rfl⟩
  have HLEN : Hid (s.nums.length = 250) := Lib.hid H1.out.len
  have HCP : Hid (∀ m ty dc sc, ∃ W2, (Builtin.copy_ #[151, 151] ty #[.slice (some ⟨C, o, none⟩) (250 - k) dc, .slice (some ⟨C, 4, none⟩) 250 sc]).run Tryz.prog (W1.drewN m) = .ok (goInt (250 - k : Nat)) W2 ∧ FdAt { s with newest := y, nums := n1 } cl C W2 ∧ Kept [C] W1 W2) := Lib.hid (fun m ty dc sc => by
    have hd := H1.out.below (bel_drewN W1 m)
    have hl : (numList (s.nums.take (250 - k))).length = (250 - k) * 2 := by rw [numList_len, List.length_take, HLEN.out]; omega
    have e : Nat.min 250 (250 - k) = 250 - k := Nat.min_eq_right (by omega)
    have h := run_copyN (P := Tryz.prog) (W1.drewN m) 151 151 ty 110 2 C o (250 - k) dc ⟨C, 4, none⟩ 250 sc (numList (s.nums.take (250 - k))) Tryz.underlying151 infoNum (by rw [hl, e])
      (fun j v hj => by
        have hadd : (⟨C, 4, none⟩ : Addr).add j = ⟨C, 4 + j, none⟩ := by unfold Addr.add; split <;> simp_all
        rw [hadd]
        exact hd.run (250 - k) (by omega) j v hj)
      (fun j hj => hd.cells _ (by have := HO.out (by omega); omega)) (fun j hj => hd.blk.free _) (fun v hv => numList_one _ v hv)
    rw [e] at h
    refine ⟨_, h, ?_, kept_setCellsF [C] C (.inl (by simp)) _ _ _ ((Kept.refl [C] W1).drewN m)⟩
    by_cases hk3 : k < 250
    · rw [HO.out hk3]
      have h9 := hd.seg (t := { s with newest := y, nums := n1 }) (s.nums.take k) (s.nums.drop k) (s.nums.take (250 - k)) [] (by simp) (by simp [← hn1]) (by simp [HLEN.out]) rfl rfl
      rw [List.length_take, HLEN.out, Nat.min_eq_left (by omega)] at h9
      exact h9
    · have e2 : k = 250 := by omega
      have e3 : n1 = s.nums := by rw [← hn1, e2, Nat.sub_self, List.take_zero, List.append_nil, List.take_of_length_le (by rw [HLEN.out]; omega)]
      rw [e3, e2, Nat.sub_self, List.take_zero]
      exact hd)
  obtain ⟨W2, hcp, hf2, hk2⟩ := HCP.out 1 3 (250 - k) 250
  rw [show W1.drewN 1 = W1.drew from rfl] at hcp
  have HCL : Hid (∀ m ty, ∃ W3, (Builtin.clear_ #[151] ty #[.slice (some ⟨C, 4, none⟩) k 250]).run Tryz.prog (W2.drewN m) = .ok (.tuple #[]) W3 ∧ FdAt { s with newest := y, nums := n2 } cl C W3 ∧ Kept [C] W2 W3) := Lib.hid (fun m ty => by
    have hd := hf2.below (bel_drewN W2 m)
    have h := run_clearN (P := Tryz.prog) (W2.drewN m) 151 110 ty _ (numList (List.replicate k (0, 0))) Tryz.underlying151 zeroNum C 4 k 250 (by omega) (zeroCells_num k) (fun j hj => hd.cells _ (by rw [numList_len, List.length_replicate] at hj; omega)) (fun j hj => hd.blk.free _) (fun v hv => numList_one _ v hv)
    refine ⟨_, h, ?_, kept_setCellsF [C] C (.inl (by simp)) _ _ _ ((Kept.refl [C] W2).drewN m)⟩
    exact hd.seg (t := { s with newest := y, nums := n2 }) [] (s.nums.take k) (List.replicate k (0, 0)) (s.nums.take (250 - k)) (by simp [← hn1]) (by simp [← hn2]) (by simp [HLEN.out]; omega) rfl rfl)
  go_region_law_o (refine step_copy_runI rfl _ _ 151 151 rfl (.slice (some ⟨C, o, none⟩) (250 - k) (250 - k)) (.slice (some ⟨C, 4, none⟩) 250 250) (by simp [Act.eval, Act.put]) (by simp [Act.eval, Act.put]) hcp ?_)
  obtain ⟨W3, hcl, hf3, hk3⟩ := HCL.out 0 0
  rw [show W2.drewN 0 = W2 from rfl] at hcl
  have k3 : Kept [C] w W3 := (HK1.out.trans' hk2).trans' hk3
  have a4 := hf3.tail.1
  simp only at a4
  rw [hs0] at a4
  have f4 := hf3.blk.free 504
  have j1 : IntKind.i64.wrap ((sp0 : Int) + (k : Int)) = ((sp0 + k : Nat) : Int) := by rw [IntKind.wrap_i64]; omega
  obtain ⟨q, hq⟩ : ∃ q, sp0 + k = q := ⟨_, rfl⟩
  rw [hq] at hsp j1
  have j2 : (sp0 : Int) + (k : Int) = (q : Int) := by omega
  obtain ⟨p1, p2, p3, _, _, _⟩ := mns q 250 sp hsp
  have p1' : (if (250 : Int) < (q : Int) then (250 : Int) else (q : Int)) = (sp : Int) := p1
  have p2' : (if 250 < q then (250 : Int) else (q : Int)) = (sp : Int) := p2
  have p3' : min (q : Int) 250 = (sp : Int) := p3
  have HF3 := Lib.hid hf3
  have HK3 := Lib.hid k3
  have HN2 := Lib.hid hn2
  clear hcp hf2 hk2 HCP HCL hf3 hk3 k3 H1 HK1 HLEN hn1 hn2
  go_wp2
  go_end0
  refine ⟨rfl, ?_, HK3.out.setCell (.inl (by simp)) _⟩
  have h9 := HF3.out.setTail (t := s.leadN y k sp) (cl' := cl) 0 (by decide) (.int .i64 sp) rfl (by show List.replicate k (0, 0) ++ s.nums.take (250 - k) = n2; exact HN2.out) rfl
  exact h9
end Go.Proofs.YtkpginmdnlhfbaaGreatDoor

namespace Go.Proofs.YtkpginmdnlhfbaaGreatDoor
open Go.ChangeShapes Go.WideShapes Go.ChangeAt Go.RowKit Go.Shelf
attribute [local go_sem] Oper.semAt_some
set_option linter.unusedVariables false
set_option linter.unusedSimpArgs false

/-- How many of the first k are got. -/
def gotN (l : List (Int × Int)) (k : Nat) : Nat := (l.take k).countP fun p => p.1 == 1
theorem gotN_succ (l : List (Int × Int)) (k : Nat) (h : k < l.length) : gotN l (k + 1) = gotN l k + (if (l.getD k (0, 0)).1 == 1 then 1 else 0) := by
  unfold gotN
  rw [List.take_add_one, List.countP_append, List.getElem?_eq_getElem h, List.getD_eq_getElem?_getD, List.getElem?_eq_getElem h]
  simp
theorem gotN_le (l : List (Int × Int)) (k : Nat) : gotN l k ≤ k := by
  unfold gotN
  exact Nat.le_trans List.countP_le_length (by rw [List.length_take]; omega)
set_option maxRecDepth 100000 in
set_option maxHeartbeats 4000000 in
theorem feedLose_none (s : FdS) (cl : Value) (sp : Nat) (hsp : s.span = (sp : Int)) (hsp2 : sp ≤ 250) (hno : ∀ k, k < sp → (s.nums.getD k (0, 0)).1 = 0 → gotN s.nums k < 3) (C : Nat) (w : World) (h : FdAt s cl C w) :
    Calls Tryz.prog 74 #[.pointer (some ⟨C, 0, none⟩)] w fun e w' => e = .returned (.tuple #[]) ∧ Below w.heap.size w w' := by
  have HNO := Lib.hid hno
  have HLEN : Hid (s.nums.length = 250) := Lib.hid h.len
  have HB1 : Hid (BlkIs #[.pointer (some ⟨C, 0, none⟩)] 47 w.heap.size (w.alloc (.cells #[.pointer (some ⟨C, 0, none⟩)] 47))) := Lib.hid (BlkIs.new _ _ _)
  have HW1 : Hid (Below w.heap.size w (w.alloc (.cells #[.pointer (some ⟨C, 0, none⟩)] 47))) := Lib.hid (bel_alloc _ _)
  have HF1 : Hid (FdAt s cl C (w.alloc (.cells #[.pointer (some ⟨C, 0, none⟩)] 47))) := Lib.hid (h.below (bel_alloc _ _))
  have b2 : (w.alloc (.cells #[.pointer (some ⟨C, 0, none⟩)] 47)).cell? ⟨C, 504, none⟩ = some (.int .i64 (sp : Int)) := by rw [HF1.out.tail.1, hsp]
  have b3 : (w.alloc (.cells #[.pointer (some ⟨C, 0, none⟩)] 47)).cell? ⟨w.heap.size, 0, none⟩ = some (.pointer (some ⟨C, 0, none⟩)) := BlkIs.cell HB1.out 0
  clear h hno hsp
  refine (callsIn_wide (n := 6)).1 ?_
  refine callsIn_of_wp_marks Tryz.func74 rfl trivial ?_ rfl
  simp only [Tryz.ntmps74, List.size_toArray, List.length_cons, List.length_nil, Nat.reduceAdd, Nat.reduceSub, Array.replicate_succ, Array.replicate_zero, List.push_toArray, List.append_toArray, List.nil_append, List.cons_append]
  gi_wp2
  generalize w.alloc (.cells #[.pointer (some ⟨C, 0, none⟩)] 47) = W1 at *
  obtain ⟨B, hB⟩ : ∃ B, w.heap.size = B := ⟨_, rfl⟩
  rw [hB] at b3 HB1 ⊢
  have HBe := Lib.hid hB
  clear hB
  gi_loopw [2, 3, 4, 13] (fun a f t i wr => ∃ (k : Nat) (t' : Int), k ≤ sp ∧ i = .int .i64 (k : Int) ∧ a = .slice none 0 0 ∧ f = .int .i64 (gotN s.nums k : Nat) ∧ t = .int .i64 t' ∧ ∃ n, wr = W1.drewN n) (fun _ _ _ i _ => sp - (intOf i).toNat)
  case atStart => exact ⟨0, 0, by omega, rfl, rfl, rfl, rfl, 0, rfl⟩
  case round =>
    obtain ⟨k, t', hk, rfl, rfl, rfl, rfl, n, rfl⟩ := hrel
    by_cases hk0 : k < sp
    · have hno := HNO.out k hk0
      have hgs := gotN_succ s.nums k (by rw [HLEN.out]; omega)
      have hgl := gotN_le s.nums k
      obtain ⟨x0, x1⟩ := HF1.out.num k (by omega)
      generalize s.nums.getD k (0, 0) = r at *
      obtain ⟨rs, ra⟩ := r
      simp only at hno hgs x0 x1
      generalize gotN s.nums k = G at *
      have HGS := Lib.hid hgs
      clear hgs
      by_cases h1 : rs = 1
      · subst h1
        clear hno
        gi_wp2
        gi_region
        all_goals
          gi_wp2
          go_roundw
          case rel => exact ⟨k + 1, ra, by omega, by go_num, rfl, by rw [HGS.out]; go_num, rfl, n + 1, by first | rfl | exact (World.drewN_drewN W1 n 1).symm | exact World.drewN_drewN W1 n 1⟩
          case measure => simp [intOf]; omega
      · have h1b : (rs == 1) = false := by rw [beq_eq_false_iff_ne]; exact h1
        rw [h1b] at HGS
        by_cases h2 : rs = 0
        · subst h2
          have hG : ¬ 3 ≤ G := by have := hno rfl; omega
          have hGi : decide ((3 : Int) ≤ (G : Int)) = false := decide_eq_false (by omega)
          clear hno
          gi_wp2
          go_roundw
          case rel => exact ⟨k + 1, t', by omega, by go_num, rfl, by rw [HGS.out]; rfl, rfl, n, rfl⟩
          case measure => simp [intOf]; omega
        · have h2b : (rs == 0) = false := by rw [beq_eq_false_iff_ne]; exact h2
          clear hno
          gi_wp2
          go_roundw
          case rel => exact ⟨k + 1, t', by omega, by go_num, rfl, by rw [HGS.out]; rfl, rfl, n, rfl⟩
          case measure => simp [intOf]; omega
    · obtain rfl : k = sp := by omega
      have HW2 : Hid (Below w.heap.size w (W1.drewN n)) := Lib.hid (bel_trans HW1.out (bel_drewN _ _))
      clear b2 b3 HF1 HB1
      generalize W1.drewN n = W2 at *
      generalize gotN s.nums k = G at *
      gi_wp2_with (refine ⟨trivial, ?_⟩; gi_at_call 106; refine (backL_in Fence.wide _ trivial rfl _ _ _ _).mono ?_; rintro e w2 ⟨rfl, rfl⟩)
      have hbx := BlkIs.cell (BlkIs.new #[.slice none 0 0] 152 W2) 0
      have HW3 : Hid (Below w.heap.size w (W2.alloc (.cells #[.slice none 0 0] 152))) := Lib.hid (bel_trans HW2.out (bel_alloc _ _))
      refine wpIn_rangeFunc_ownF rfl (by decide) (gf := 129) (lb := #[.pointer (some ⟨W2.heap.size, 0, none⟩)]) rfl trivial (enters_of Tryz.func129 (by kernel_rfl) rfl)
        (backL_stops Fence.wide 5 trivial rfl W2.heap.size 0 none _ (by simp) hbx (fun _ _ => True)) (fun _ _ => trivial) (fun _ _ _ _ _ _ _ _ => trivial) (Below.refl _ _) (fun x => x.elim)
        (fun _ W => Below w.heap.size w W) (fun _ _ _ => False) (ownFrom_below (Nat.le_refl _) HW3.out.size) (fun _ _ _ _ _ hs _ _ => hs) HW3.out (fun x => x.elim) ?assign ?body ?done ?stop
      case assign => intro l x; exact x.elim
      case body => intro l pre x; exact x.elim
      case done =>
        rintro D ys W hD rfl hB hK
        gi_wp2
        refine ⟨by simp, .inl ⟨_, _, rfl, run_takeDeferred hK, ?_⟩⟩
        exact ⟨_, results_none rfl _ _ _, rfl, hB.trans (belowK_b (w := w) (Nat.le_refl _) W D _ _ (Nat.le_trans HW3.out.size hD) hK rfl rfl)⟩
      case stop =>
        rintro D c pre W _ _ h _
        exact h.elim
end Go.Proofs.YtkpginmdnlhfbaaGreatDoor

namespace Go.Proofs.YtkpginmdnlhfbaaGreatDoor
open Go.ChangeShapes Go.WideShapes Go.ChangeAt Go.RowKit
set_option linter.unusedVariables false
set_option linter.unusedSimpArgs false

/-- One of the numbers is written. -/
theorem FdAt.setNum {s t : FdS} {cl : Value} {C : Nat} {w : World} (h : FdAt s cl C w) (a : Nat) (ha : a < 250) (p : Int × Int) (ht : t.nums = s.nums.set a p) (e1 : fdHead t = fdHead s) (e3 : fdTail t cl = fdTail s cl) :
    FdAt t cl C ((w.setCell ⟨C, 4 + a * 2, none⟩ (.int .i64 p.1)).setCell ⟨C, 4 + a * 2 + 1, none⟩ (.int .i64 p.2)) := by
  have hl : (s.nums.take a).length = a := by rw [List.length_take, h.len]; omega
  have e : s.nums = s.nums.take a ++ ([s.nums.getD a (0, 0)] ++ s.nums.drop (a + 1)) := by
    rw [List.getD_eq_getElem?_getD, List.getElem?_eq_getElem (by rw [h.len]; exact ha)]
    simp
  have e2 : t.nums = s.nums.take a ++ ([p] ++ s.nums.drop (a + 1)) := by
    rw [ht, List.set_eq_take_append_cons_drop, if_pos (by rw [h.len]; exact ha)]
    rfl
  have h1 := h.seg (t := t) (s.nums.take a) [s.nums.getD a (0, 0)] [p] (s.nums.drop (a + 1)) e e2 rfl e1 e3
  rw [hl] at h1
  exact h1
/-- What a number of age a leaves. -/
def FdS.putN (s : FdS) (N : Int) (a : Nat) (sz : Nat) : FdS := { s with now := N, nums := s.nums.set a (1, N), bytes := s.bytes + sz }
set_option maxRecDepth 100000 in
set_option maxHeartbeats 4000000 in
theorem feedPut_lead (s : FdS) (N : Int) (cl : Value) (now : Int) (hN : max s.now (min now 4611686018427387904) = N) (n : Nat) (step k y sp0 sp : Nat) (g1 : 1 ≤ step) (g2 : step ≤ 140737488355328) (g3 : min step 250 = k) (g4 : s.span = (sp0 : Int)) (g5 : 1 ≤ sp0) (g5b : sp0 ≤ 250) (g6 : min (sp0 + k) 250 = sp)
    (g7 : ∀ W, Calls Tryz.prog 80 #[.int .u64 s.newest, .int .i64 step] W fun e w' => e = .returned (.int .u64 y) ∧ W = w')
    (hd : ∀ W, Calls Tryz.prog 72 #[.int .u64 s.newest, .int .u64 n] W fun e w' => e = .returned (.int .i64 (-(step : Int))) ∧ W = w')
    (s1 : FdS) (hs1 : FdS.leadN { s with now := N } y k sp = s1)
    (hno : ∀ k, k < sp → ((s1.nums.set 0 (1, N)).getD k (0, 0)).1 = 0 → gotN (s1.nums.set 0 (1, N)) k < 3)
    (sz : Nat) (hsz : sz ≤ 65535) (hby : s.bytes ≤ 1099511627776) (C : Nat) (w : World) (h : FdAt s cl C w) :
    Calls Tryz.prog 25 #[.pointer (some ⟨C, 0, none⟩), .int .i64 now, .int .u64 n, .int .i64 sz] w fun e w' => e = .returned (.bool true) ∧ FdAt (s1.putN N 0 sz) cl C w' ∧ Kept [C] w w' := by
  have HP := Lib.hid (feedPass_any s cl now C w h)
  rw [hN] at HP
  have HD := Lib.hid hd
  have HNO := Lib.hid hno
  have hsp2 : sp ≤ 250 := by omega
  have hsi : s1.span = (sp : Int) := by rw [← hs1]; rfl
  have hby1 : s1.bytes = s.bytes := by rw [← hs1]; rfl
  have hnow : s1.now = N := by rw [← hs1]; rfl
  have hm : (s1.nums.getD 0 (0, 0)).1 = 0 := by
    rw [← hs1]
    show ((List.replicate k ((0 : Int), (0 : Int)) ++ s.nums.take (250 - k)).getD 0 (0, 0)).1 = 0
    obtain ⟨k2, rfl⟩ : ∃ k2, k = k2 + 1 := ⟨k - 1, by omega⟩
    rfl
  have HL0 : Hid (∀ W, FdAt { s with now := N } cl C W → Calls Tryz.prog 73 #[.pointer (some ⟨C, 0, none⟩), .int .i64 step] W fun e w' => e = .returned (.tuple #[]) ∧ FdAt s1 cl C w' ∧ Kept [C] W w') := Lib.hid (fun W hW => by
    have h9 := feedLead_any { s with now := N } cl step k y g1 (by omega) g3 sp0 sp g4 g5b g6 g7 C W hW
    rw [hs1] at h9
    exact h9)
  have hs0 : ¬ s.span = 0 := by omega
  clear g7
  have HSI := Lib.hid hsi
  have HNW := Lib.hid hnow
  have HBY := Lib.hid hby1
  have HM := Lib.hid hm
  have hsb : (s.span == 0) = false := by rw [beq_eq_false_iff_ne]; exact hs0
  have HS1 := Lib.hid hs1
  clear h hd hN hno hsi hby1 hnow hm hs1
  go_enter Tryz.func25, Tryz.ntmps25
  go_upto_region 4 with (go_at_call 71; (with_reducible refine HP.out.mono ?_); rintro e W1 ⟨rfl, h1, hk1⟩)
  have a5 := h1.tail.1
  have a3 := h1.head.2.2.2
  simp only at a5 a3
  have H1 := Lib.hid h1
  have HK1 := Lib.hid hk1
  clear h1 hk1
  go_upto_region 7 with (go_at_call 72; (with_reducible refine (HD.out _).mono ?_); rintro e w1 ⟨rfl, rfl⟩)
  have i0 : decide (-(step : Int) < 0) = true := decide_eq_true (by omega)
  have i1 : -(step : Int) < 0 := by omega
  have i2 : IntKind.i64.wrap (step : Int) = (step : Int) := by rw [IntKind.wrap_i64]; omega
  have i3 : IntKind.i64.wrap (-(-(step : Int))) = (step : Int) := by rw [Int.neg_neg]; exact i2
  clear a3 a5
  go_upto_region 10 with (go_at_call 73; (with_reducible refine (HL0.out _ H1.out).mono ?_); rintro e W3 ⟨rfl, h3, hk3⟩)
  have hk4 := HK1.out.trans' hk3
  clear hk3 H1 HK1 HL0 i0 i1 i2 i3
  have b4 := (h3.num 0 (by omega)).1
  rw [HM.out] at b4
  simp only [Nat.zero_mul, Nat.add_zero] at b4
  have b5 := (h3.num 0 (by decide)).2
  simp only [Nat.zero_mul, Nat.add_zero, Nat.reduceAdd] at b5
  have b1 := h3.head.2.1
  rw [HNW.out] at b1
  have g4' := h3.blk.free (4)
  have g5' := h3.blk.free (5)
  have H3 := Lib.hid h3
  have HK4 := Lib.hid hk4
  clear h3 hk4
  go_upto_region 12 with fail
  go_region
  obtain ⟨W5, hW5⟩ : ∃ W5, ((W3.setCell ⟨C, 4, none⟩ (.int .i64 1)).setCell ⟨C, 5, none⟩ (.int .i64 N)).drew = W5 := ⟨_, rfl⟩
  have h5 : FdAt { s1 with nums := s1.nums.set 0 (1, N) } cl C W5 := by
    rw [← hW5]
    exact (FdAt.setNum (t := { s1 with nums := s1.nums.set 0 (1, N) }) H3.out 0 (by omega) (1, N) rfl rfl rfl).below ⟨rfl, rfl, rfl, Nat.le_refl _, fun _ _ => rfl⟩
  have hk5 : Kept [C] w W5 := by rw [← hW5]; exact ((HK4.out.setCell (.inl (by simp)) _).setCell (.inl (by simp)) _).drew
  rw [hW5]
  clear hW5 b4 b5 b1 g4' g5' H3 HK4
  have d9 := h5.tail.2.2.2.2.2.1
  simp only at d9
  rw [HBY.out] at d9
  have g9 := h5.blk.free 509
  have i1 : (if (sz : Int) < 0 then 0 else (sz : Int)) = (sz : Int) := if_neg (by omega)
  have i2 : (if (65535 : Int) < (sz : Int) then 65535 else (sz : Int)) = (sz : Int) := if_neg (by omega)
  have i3 : max (sz : Int) 0 = (sz : Int) := by omega
  have i4 : min (sz : Int) 65535 = (sz : Int) := by omega
  have i5 : ¬ (65535 < sz) := by omega
  have hszi : (sz : Int) ≤ 65535 := by omega
  obtain ⟨Z, hZ⟩ : ∃ Z, s.bytes + sz = Z := ⟨_, rfl⟩
  have j1 : (s.bytes : Int) + (sz : Int) = (Z : Int) := by omega
  have j2 : (Z : Int) ≤ 1099511693311 := by omega
  have HZ := Lib.hid hZ
  have H5 := Lib.hid h5
  have HK5 := Lib.hid hk5
  clear hZ h5 hk5
  go_upto_region 14 with fail
  obtain ⟨W6, hW6⟩ : ∃ W6, W5.setCell ⟨C, 509, none⟩ (.int .u64 Z) = W6 := ⟨_, rfl⟩
  have h6 : FdAt (s1.putN N 0 sz) cl C W6 := by
    rw [← hW6]
    exact H5.out.setTail (t := s1.putN N 0 sz) (cl' := cl) 5 (by decide) _ (by unfold FdS.putN fdHead; rw [HNW.out]) rfl (by unfold FdS.putN; rw [HBY.out, HZ.out]; rfl)
  have hk6 : Kept [C] w W6 := by rw [← hW6]; exact HK5.out.setCell (.inl (by simp)) _
  have HL := Lib.hid (feedLose_none (s1.putN N 0 sz) cl sp HSI.out hsp2 HNO.out C W6 h6)
  rw [hW6]
  clear hW6 d9 g9 i1 i2 i3 i4 i5
  go_wp2_with (go_at_call 74; (with_reducible refine HL.out.mono ?_); rintro e W7 ⟨rfl, hb7⟩)
  go_ret
  exact ⟨rfl, h6.below hb7, hk6.trans' (Kept.of_below _ hb7)⟩
set_option maxRecDepth 100000 in
set_option maxHeartbeats 4000000 in
theorem feedPut_fill (s : FdS) (N : Int) (cl : Value) (now : Int) (hN : max s.now (min now 4611686018427387904) = N) (n : Nat) (sp a : Nat) (ha : a < 250) (hsp : s.span = (sp : Int)) (hsp1 : 1 ≤ sp) (hsp2 : sp ≤ 250)
    (hd : ∀ W, Calls Tryz.prog 72 #[.int .u64 s.newest, .int .u64 n] W fun e w' => e = .returned (.int .i64 (a : Int)) ∧ W = w')
    (s1 : FdS) (hs1 : { s with now := N } = s1) (hm : (s1.nums.getD a (0, 0)).1 = 0)
    (hno : ∀ k, k < sp → ((s1.nums.set a (1, N)).getD k (0, 0)).1 = 0 → gotN (s1.nums.set a (1, N)) k < 3)
    (sz : Nat) (hsz : sz ≤ 65535) (hby : s.bytes ≤ 1099511627776) (C : Nat) (w : World) (h : FdAt s cl C w) :
    Calls Tryz.prog 25 #[.pointer (some ⟨C, 0, none⟩), .int .i64 now, .int .u64 n, .int .i64 sz] w fun e w' => e = .returned (.bool true) ∧ FdAt (s1.putN N a sz) cl C w' ∧ Kept [C] w w' := by
  have HP := Lib.hid (feedPass_any s cl now C w h)
  rw [hN] at HP
  have HD := Lib.hid hd
  have HNO := Lib.hid hno
  have hsi : s1.span = (sp : Int) := by rw [← hs1]; exact hsp
  have hby1 : s1.bytes = s.bytes := by rw [← hs1]
  have hnow : s1.now = N := by rw [← hs1]
  have hs0 : ¬ s.span = 0 := by omega
  have HSI := Lib.hid hsi
  have HNW := Lib.hid hnow
  have HBY := Lib.hid hby1
  have HM := Lib.hid hm
  have hsb : (s.span == 0) = false := by rw [beq_eq_false_iff_ne]; exact hs0
  have HS1 := Lib.hid hs1
  clear h hd hN hno hsi hby1 hnow hm hs1
  go_enter Tryz.func25, Tryz.ntmps25
  go_upto_region 4 with (go_at_call 71; (with_reducible refine HP.out.mono ?_); rintro e W1 ⟨rfl, h1, hk1⟩)
  have a5 := h1.tail.1
  have a3 := h1.head.2.2.2
  simp only at a5 a3
  have H1 := Lib.hid h1
  have HK1 := Lib.hid hk1
  clear h1 hk1
  go_upto_region 7 with (go_at_call 72; (with_reducible refine (HD.out _).mono ?_); rintro e w1 ⟨rfl, rfl⟩)
  have i0 : decide ((a : Int) < 0) = false := decide_eq_false (by omega)
  have i1 : ¬ (a : Int) < 0 := by omega
  clear a3 a5
  go_upto_region 10 with fail
  have h3 : FdAt s1 cl C W1 := by rw [← HS1.out]; exact H1.out
  have hk4 := HK1.out
  clear H1 HK1 i0 i1
  have b4 := (h3.num a (by omega)).1
  rw [HM.out] at b4
  have b5 := (h3.num a (by omega)).2
  have i3 : decide ((250 : Int) ≤ (a : Int)) = false := decide_eq_false (by omega)
  have i4 : ¬ 250 ≤ a := by omega
  have b1 := h3.head.2.1
  rw [HNW.out] at b1
  have g4' := h3.blk.free (4 + a * 2)
  have g5' := h3.blk.free (4 + a * 2 + 1)
  have H3 := Lib.hid h3
  have HK4 := Lib.hid hk4
  clear h3 hk4
  go_upto_region 12 with fail
  go_region
  obtain ⟨W5, hW5⟩ : ∃ W5, ((W1.setCell ⟨C, 4 + a * 2, none⟩ (.int .i64 1)).setCell ⟨C, 4 + a * 2 + 1, none⟩ (.int .i64 N)).drew = W5 := ⟨_, rfl⟩
  have h5 : FdAt { s1 with nums := s1.nums.set a (1, N) } cl C W5 := by
    rw [← hW5]
    exact (FdAt.setNum (t := { s1 with nums := s1.nums.set a (1, N) }) H3.out a (by omega) (1, N) rfl rfl rfl).below ⟨rfl, rfl, rfl, Nat.le_refl _, fun _ _ => rfl⟩
  have hk5 : Kept [C] w W5 := by rw [← hW5]; exact ((HK4.out.setCell (.inl (by simp)) _).setCell (.inl (by simp)) _).drew
  rw [hW5]
  clear hW5 b4 b5 b1 g4' g5' H3 HK4
  have d9 := h5.tail.2.2.2.2.2.1
  simp only at d9
  rw [HBY.out] at d9
  have g9 := h5.blk.free 509
  have i1 : (if (sz : Int) < 0 then 0 else (sz : Int)) = (sz : Int) := if_neg (by omega)
  have i2 : (if (65535 : Int) < (sz : Int) then 65535 else (sz : Int)) = (sz : Int) := if_neg (by omega)
  have i3 : max (sz : Int) 0 = (sz : Int) := by omega
  have i4 : min (sz : Int) 65535 = (sz : Int) := by omega
  have i5 : ¬ (65535 < sz) := by omega
  have hszi : (sz : Int) ≤ 65535 := by omega
  obtain ⟨Z, hZ⟩ : ∃ Z, s.bytes + sz = Z := ⟨_, rfl⟩
  have j1 : (s.bytes : Int) + (sz : Int) = (Z : Int) := by omega
  have j2 : (Z : Int) ≤ 1099511693311 := by omega
  have HZ := Lib.hid hZ
  have H5 := Lib.hid h5
  have HK5 := Lib.hid hk5
  clear hZ h5 hk5
  go_upto_region 14 with fail
  obtain ⟨W6, hW6⟩ : ∃ W6, W5.setCell ⟨C, 509, none⟩ (.int .u64 Z) = W6 := ⟨_, rfl⟩
  have h6 : FdAt (s1.putN N a sz) cl C W6 := by
    rw [← hW6]
    exact H5.out.setTail (t := s1.putN N a sz) (cl' := cl) 5 (by decide) _ (by unfold FdS.putN fdHead; rw [HNW.out]) rfl (by unfold FdS.putN; rw [HBY.out, HZ.out]; rfl)
  have hk6 : Kept [C] w W6 := by rw [← hW6]; exact HK5.out.setCell (.inl (by simp)) _
  have HL := Lib.hid (feedLose_none (s1.putN N a sz) cl sp HSI.out hsp2 HNO.out C W6 h6)
  rw [hW6]
  clear hW6 d9 g9 i1 i2 i3 i4 i5
  go_wp2_with (go_at_call 74; (with_reducible refine HL.out.mono ?_); rintro e W7 ⟨rfl, hb7⟩)
  go_ret
  exact ⟨rfl, h6.below hb7, hk6.trans' (Kept.of_below _ hb7)⟩
end Go.Proofs.YtkpginmdnlhfbaaGreatDoor
