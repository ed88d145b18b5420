/-
  A range over a function that makes so many rounds, in order: what a round is handed is told by its number and by the world in which it begins.
  Package feed: copy and clear of elements of more cells than one; a number further on than the newest.
  Package feed: nothing is lost behind which fewer than three were got.
  Package feed: Put, once a first one was put.
  Package feed: Put as a function of what is kept; numbers that are told from another one on come to the same.
  Package feed: two that were put the same numbers, told from another one on, tell the same.
  slices.Insert of one uint64 at the head of a row of them where there is room.
  Package feed: begin and take: an event, an interval that is closed.
  Package feed: take: a loss counts; it begins an event, or is one with the last.
  Package feed: slices.Backward over losses; a loss appended.
  Package feed: loseOvertaken, whatever is kept.
  Package feed: loseOvertaken, walked.
  Package feed: a number that is there; numbers a little out of order.
  Package feed: Put in each of its ways, losses and all.
  Package feed: Put.
  Rows of unsigned numbers: of the call's own, grown, written.
  Package feed: what is told: open, Intervals, Loss, Lost; rows that are the same.
  Package feed: Intervals, Loss, Lost, whatever is kept.
-/
import Derived.RangeFuncNested
import Derived.RangeFuncBound
import Derived.RangeFuncCalls
import Derived.RangeFuncLeaves
import Derived.RangeFuncBox
import Derived.Test.YtbiglbclifbmhaaGreatDoorBlk
import Derived.Test.YtbiglbclifbmhaaGreatDoorFdM
import Derived.Test.YtbiglbclifbmhaaGreatDoorGtM
import Derived.Lib.SliceRun
import Derived.Lib.Overlaps
import Derived.Laws.AppendOwn
import Derived.Test.YtbiglbclifbmhaaGreatDoorIvalA
import Derived.Lib.FrozenHead
namespace Go.Proofs.YtbiglbclifbmhaaGreatDoor
open Go Go.RowKit
set_option linter.unusedVariables false

variable {F : Fence} {n : Nat} {P : Program}

/-- N rounds; round k is handed vs where 'sees k W vs', W the world in which it begins; a round keeps Kp. -/
def RoundsOf (F : Fence) (n : Nat) (P : Program) (g : Nat) (lb : Array Value) (sees : Nat → World → Array Value → Prop) (Kp : World → World → Prop) (N : Nat) (w0 : World) : Prop :=
  ∀ (l : Nat) (J : Nat → World → Prop) (W : World), Below w0.heap.size w0 W →
    (∀ k vs X, J k X → k < N → sees k X vs → YieldAt F (n - 1) P l vs X fun e Y => e = .returned (.bool true) ∧ J (k + 1) Y ∧ Kp X Y) →
    J 0 W → CallsIn F n P g (#[.func (.yield l) #[] #[]] ++ lb) W fun e Y => (∃ v, e = .returned v) ∧ J N Y

/-- A round's body goes on. -/
def onPost (B : Nat) (Kp : World → World → Prop) (I : World → Prop) (W : World) : Exit → Act → World → Prop
  | .normal, _, Y => KeepsFrom B W Y ∧ Kp W Y ∧ I Y
  | _, _, _ => False

theorem wpIn_rangeFunc_rounds {g : Operand} {ps : Array Tmp} {assign body : Code} {Q : Exit → Act → World → Prop} {a : Act} {w : World}
    (hro : F.round = none) (h1 : 1 ≤ n) {gf : Nat} {lb : Array Value} (hg : a.eval g = .func (.func gf) #[] lb) (hFg : F.fn gf) (eg : ∀ args W, (callFunc gf args).run P W = .ok (.enter gf args) W)
    {sees : Nat → World → Array Value → Prop} {Kp : World → World → Prop} {N : Nat} {w0 : World} (hseq : RoundsOf F (n - 1) P gf lb sees Kp N w0)
    (hKt : ∀ {A B C : World}, Kp A B → Kp B C → Kp A C) (hKb : ∀ (W : World) (l : Nat) (o o' : Obj), w.heap.size ≤ l → W.heap[l]? = some o → o.isCells = false → o.isWalk = false → Kp W (W.putObj l o'))
    (hb0 : Below w0.heap.size w0 w) (hps : ∀ k W vs, sees k W vs → vs.size = ps.size)
    (I : Nat → World → Prop) (hI : OwnFrom w.heap.size I) (h0 : I 0 w) (Ax : Nat → Array Value → Act → World → Prop) (hAx : ∀ k vs b, OwnFrom w.heap.size (fun (_ : Unit) W => Ax k vs b W))
    (hassign : ∀ (l k : Nat) (vs : Array Value) (W : World) (K : Act → World → Prop), I k W → k < N → sees k W vs → (∀ b Y, KeepsFrom w.heap.size W Y → Kp W Y → I k Y → Ax k vs b Y → K b Y) →
      assign.wpIn (F.inRound l) (n - 1 - 1) P (Exit.then K (fun _ _ _ => False)) { tmps := (ps.zip vs).foldl (fun t (p, v) => t.setIfInBounds p v) a.tmps, defers := [] } W)
    (hbody : ∀ (l k : Nat) (vs : Array Value) (b : Act) (W : World), w.heap.size ≤ l → (∃ r, W.heap[l]? = some (.loop r)) → I k W → k < N → Ax k vs b W → body.wpIn (F.inRound l) (n - 1 - 1) P (onPost w.heap.size Kp (I (k + 1)) W) b W)
    (hdone : ∀ (D : Nat) (W : World), w.heap.size ≤ D → I N W → W.heap[D]? = some (.deferred (some [])) → Q .normal { a with defers := { target := .collected D, args := #[] } :: a.defers } W) :
    (Code.rangeFunc g ps assign body).wpIn F n P Q a w := by
  obtain ⟨B, hB⟩ : ∃ B, w.heap.size = B := ⟨_, rfl⟩
  rw [hB] at hKb hI hAx hassign hbody hdone
  refine wpIn_rangeFunc fun fn hfn => ?_
  rw [hro]
  -- what lies in the record, by its state
  obtain ⟨rc, hrc⟩ : ∃ rc : LoopState → Loop, rc = fun s => { state := s, pending := none, fn, tmps := a.tmps, params := ps, assign, body, defers := B } := ⟨_, rfl⟩
  have e1 : (Instr.enterLoop fn a.tmps ps assign body none).run P w = .ok (B + 1, [{ target := .collected B, args := #[] }]) ((w.alloc (.deferred (some []))).alloc (.loop (rc .ready))) := by
    rw [hrc, ← hB]; exact run_enterLoop_outer fn a.tmps ps assign body
  have eR : ((w.alloc (.deferred (some []))).alloc (.loop (rc .ready))).heap[B + 1]? = some (.loop (rc .ready)) := by
    have h := World.alloc_heap_new (w.alloc (.deferred (some []))) (.loop (rc .ready))
    rw [World.size_alloc, hB] at h; exact h
  have eD : ((w.alloc (.deferred (some []))).alloc (.loop (rc .ready))).heap[B]? = some (.deferred (some [])) := by
    have h := World.alloc_heap_new w (.deferred (some []))
    rw [hB] at h
    exact (Below.heap_alloc _ _ _ (by rw [World.size_alloc]; omega)).trans h
  have eI : I 0 ((w.alloc (.deferred (some []))).alloc (.loop (rc .ready))) := hI.alloc _ (hI.alloc _ h0)
  have eB : Below w0.heap.size w0 ((w.alloc (.deferred (some []))).alloc (.loop (rc .ready))) := hb0.trans ((((Below.refl _ w).alloc (Nat.le_refl _) _).alloc (by simp) _).mono hb0.size)
  revert e1 eR eD eI eB
  generalize (w.alloc (.deferred (some []))).alloc (.loop (rc .ready)) = V
  intro e1 eR eD eI eB
  refine ⟨B + 1, [{ target := .collected B, args := #[] }], V, { target := .fn (.func gf) lb, args := #[.func (.yield (B + 1)) #[] #[]] }, V, gf, #[.func (.yield (B + 1)) #[] #[]] ++ lb, V, e1, ?_, ?_, ?_, fun _ => h1, ?_⟩
  · simp only [resolve, hg]
    simp [go_sem]
  · intro f' hf'
    simp [Target.leads] at hf'
    subst hf'
    exact hFg
  · simp [invoke, go_sem, eg]
  -- the record is ready, the block for what is put off lies
  refine (hseq (B + 1) (fun k W => I k W ∧ W.heap[B + 1]? = some (.loop (rc .ready)) ∧ W.heap[B]? = some (.deferred (some []))) V eB ?_ ⟨eI, eR, eD⟩).mono ?_
  · rintro k vs X ⟨xi, xr, xd⟩ hk hs
    have hy := run_yield (P := P) (args := vs) xr (by rw [hrc]; exact hps k X vs hs)
    rw [hrc] at hy
    refine ⟨fn, _, assign, body, hy, roundIn_of_wpIn hfn (hassign _ k vs X _ xi hk hs fun b Y yk yp yi ya => ?_)⟩
    have yr := yk.same _ _ (Nat.le_succ B) xr rfl
    have yd := yk.same _ _ (Nat.le_refl B) xd rfl
    have ylt : B + 1 < Y.heap.size := (Array.getElem?_eq_some_iff.1 yr).1
    refine ⟨_, run_beginRound yr (by rw [hrc]), ?_⟩
    have zr : (Y.putObj (B + 1) (.loop { rc .ready with state := .busy })).heap[B + 1]? = some (.loop { rc .ready with state := .busy }) := World.putObj_heap_same ylt
    have zd : (Y.putObj (B + 1) (.loop { rc .ready with state := .busy })).heap[B]? = some (.deferred (some [])) := (World.putObj_heap_other (by omega)).trans yd
    have zk : Kp Y (Y.putObj (B + 1) (.loop { rc .ready with state := .busy })) := hKb _ _ _ _ (by omega) yr rfl rfl
    refine wpIn_mono (hbody _ k vs b _ (by omega) ⟨_, zr⟩ (hI.putObj _ yi (by omega) yr rfl) hk ((hAx k vs b).putObj (s := ()) _ ya (by omega) yr rfl)) ?_
    rintro e b3 Z hp
    cases e with
    | normal =>
      obtain ⟨p1, p2, p3⟩ := hp
      have vr := p1.same _ _ (Nat.le_succ B) zr rfl
      have vd := p1.same _ _ (Nat.le_refl B) zd rfl
      have hend := run_endRound (P := P) none vr
      refine ⟨_, _, hend, rfl, ⟨hI.putObj _ p3 (by omega) vr rfl, ?_, (World.putObj_heap_other (by omega)).trans vd⟩, hKt yp (hKt (hKt zk p2) (hKb _ _ _ _ (by omega) vr rfl rfl))⟩
      rw [World.putObj_heap_same (Array.getElem?_eq_some_iff.1 vr).1, hrc]
      rfl
    | ret => exact hp.elim
    | exit id => exact hp.elim
    | goto t => exact hp.elim
    | panic c => exact hp.elim
    | outgrown => exact hp.elim
  · rintro e Y ⟨⟨v, rfl⟩, yi, yr, yd⟩
    have h := run_endLoop (P := P) yr (by rw [hrc]; simp)
    have hp : (rc .ready).pending = none := by rw [hrc]
    rw [hp] at h
    exact ⟨none, _, h, hdone B _ (Nat.le_refl _) (hI.putObj _ yi (by omega) yr rfl) ((World.putObj_heap_other (by omega)).trans yd)⟩
end Go.Proofs.YtbiglbclifbmhaaGreatDoor

namespace Go.Proofs.YtbiglbclifbmhaaGreatDoor
open Go.ChangeShapes Go.WideShapes Go.ChangeAt Go.RowKit
set_option linter.unusedVariables false
set_option linter.unusedSimpArgs false

theorem kept_setCellsF (S : List Nat) {a : World} (b : Nat) (hb : b ∈ S ∨ a.heap.size ≤ b) : ∀ (vs : List Value) (o : Nat) (w : World), Kept S a w → Kept S a (w.setCells b o vs)
  | [], _, _, h => h
  | v :: r, o, w, h => kept_setCellsF S b hb r (o + 1) _ (h.setCell (p := ⟨b, o, none⟩) hb v)
theorem run_copyN {P : Program} (w : World) (dT sT ty elem : TypeId) (k b o dLen dCap : Nat) (a : Addr) (sLen sCap : Nat) (cs : List Value)
    (hu : P.underlying dT = some (.slice elem)) (hs : (P.info? elem).map (·.size) = some k) (hn : cs.length = Nat.min sLen dLen * k)
    (hsrc : ∀ j v, cs[j]? = some v → w.cell? (a.add j) = some v) (hc : ∀ j, j < cs.length → (w.cell? ⟨b, o + j, none⟩).isSome = true) (hf : ∀ j, j < cs.length → w.frozen? ⟨b, o + j, none⟩ = false) (h1 : ∀ v ∈ cs, v.oneCell' = true) :
    (Builtin.copy_ #[dT, sT] ty #[.slice (some ⟨b, o, none⟩) dLen dCap, .slice (some a) sLen sCap]).run P w = .ok (goInt (Nat.min sLen dLen)) (w.setCells b o cs) := by
  have hl := run_loadCells_list (P := P) w a cs hsrc
  rw [hn] at hl
  have hst := run_storeCells_cells (P := P) b o cs 0 w (by simpa using hc) (by simpa using hf) h1
  cases hq : P.info? elem with
  | none => simp [hq] at hs
  | some i =>
    have hi : i.size = k := by simpa [hq] using hs
    simp only [Nat.add_zero] at hst
    simp [Builtin.copy_, run_underlying hu, Builtin.lenOf, Builtin.firstCells, sizeOf, typeInfo, hq, hi, hl, hst]
theorem run_clearN {P : Program} (w : World) (t e ty : TypeId) (z : Value) (zs : List Value) (ht : P.underlying t = some (.slice e)) (hv : ∀ w, (zeroValue e).run P w = .ok z w) (b o n c : Nat) (hn : 0 < n) (hz : (Builtin.zeroCells z.cells n).toList = zs)
    (hc : ∀ j, j < zs.length → (w.cell? ⟨b, o + j, none⟩).isSome = true) (hf : ∀ j, j < zs.length → w.frozen? ⟨b, o + j, none⟩ = false) (h1 : ∀ v ∈ zs, v.oneCell' = true) :
    (Builtin.clear_ #[t] ty #[.slice (some ⟨b, o, none⟩) n c]).run P w = .ok (.tuple #[]) (w.setCells b o zs) := by
  have hst := run_storeCells_cells (P := P) b o zs 0 w (by simpa using hc) (by simpa using hf) h1
  simp only [Nat.add_zero] at hst
  obtain ⟨m, rfl⟩ : ∃ m, n = m + 1 := ⟨n - 1, by omega⟩
  simp [Builtin.clear_, run_underlying ht, hv, hz, hst]
/-- A stretch of a block is written. -/
theorem BlkIs.seg {T : TypeId} {C : Nat} : ∀ (vs mid h t : List Value) (w : World), mid.length = vs.length → BlkIs (h ++ (mid ++ t)).toArray T C w → BlkIs (h ++ (vs ++ t)).toArray T C (w.setCells C h.length vs) := by
  intro vs
  induction vs with
  | nil =>
    intro mid h t w hl hb
    have : mid = [] := List.length_eq_zero_iff.1 hl
    subst this
    exact hb
  | cons v vs ih =>
    intro mid h t w hl hb
    rcases mid with _ | ⟨m, mid⟩
    · simp at hl
    have h1 := hb.set h.length v
    have e : ((h ++ (m :: mid ++ t)).toArray).setIfInBounds h.length v = ((h ++ [v]) ++ (mid ++ t)).toArray := by
      rw [List.setIfInBounds_toArray, List.set_append_right _ _ (Nat.le_refl _), Nat.sub_self]
      simp
    rw [e] at h1
    have h2 := ih mid (h ++ [v]) t _ (by simpa using hl) h1
    rw [List.length_append] at h2
    have e2 : (h ++ [v]) ++ (vs ++ t) = h ++ (v :: vs ++ t) := by simp
    rw [e2] at h2
    exact h2
theorem numList_app (l m : List (Int × Int)) : numList (l ++ m) = numList l ++ numList m := List.flatMap_append
theorem numList_one (l : List (Int × Int)) (v : Value) (h : v ∈ numList l) : v.oneCell' = true := by
  unfold numList at h
  obtain ⟨p, _, hp⟩ := List.mem_flatMap.1 h
  simp at hp
  rcases hp with rfl | rfl <;> rfl
/-- Some of the numbers are written anew. -/
theorem FdAt.seg {s t : FdS} {cl : Value} {C : Nat} {w : World} (h : FdAt s cl C w) (a m m2 c : List (Int × Int)) (hs : s.nums = a ++ (m ++ c)) (ht : t.nums = a ++ (m2 ++ c)) (hl : m.length = m2.length) (e1 : fdHead t = fdHead s) (e2 : fdTail t cl = fdTail s cl) :
    FdAt t cl C (w.setCells C (4 + a.length * 2) (numList m2)) := by
  refine ⟨?_, by have := h.len; rw [hs] at this; rw [ht]; simp at this ⊢; omega⟩
  have h1 := h.blk
  unfold fdCells at h1 ⊢
  rw [hs, numList_app, numList_app, List.append_assoc, List.append_assoc, ← List.append_assoc (fdHead s)] at h1
  have h2 := BlkIs.seg (numList m2) (numList m) (fdHead s ++ numList a) (numList c ++ fdTail s cl) w (by rw [numList_len, numList_len, hl]) h1
  have e3 : (fdHead s ++ numList a).length = 4 + a.length * 2 := by rw [List.length_append, numList_len]; rfl
  rw [e3] at h2
  rw [ht, e1, e2, numList_app, numList_app]
  simpa using h2
theorem FdAt.cells {s : FdS} {cl : Value} {C : Nat} {w : World} (h : FdAt s cl C w) (i : Nat) (hi : i < 511) : (w.cell? ⟨C, i, none⟩).isSome = true := by
  rw [h.blk.cell i]
  have hl := numList_len s.nums
  have hn := h.len
  unfold fdCells
  rw [List.getElem?_toArray, List.getElem?_eq_getElem (by simp [fdHead, fdTail]; omega)]
  rfl
/-- What lies at a stretch of the numbers. -/
theorem FdAt.run {s : FdS} {cl : Value} {C : Nat} {w : World} (h : FdAt s cl C w) (n : Nat) (hn : n ≤ 250) (j : Nat) (v : Value) (hj : (numList (s.nums.take n))[j]? = some v) : w.cell? ⟨C, 4 + j, none⟩ = some v := by
  have hl : (numList (s.nums.take n)).length = n * 2 := by rw [numList_len, List.length_take, h.len]; omega
  have hj2 : j < n * 2 := by
    have := (List.getElem?_eq_some_iff.1 hj).1
    omega
  rw [h.blk.cell]
  unfold fdCells
  rw [List.getElem?_toArray, List.getElem?_append_right (show (4 : Nat) ≤ 4 + j by omega), show 4 + j - (fdHead s).length = j by simp [fdHead]]
  have e : numList s.nums = numList (s.nums.take n) ++ numList (s.nums.drop n) := by rw [← numList_app, List.take_append_drop]
  rw [e, List.append_assoc, List.getElem?_append_left (by omega)]
  exact hj
theorem infoNum : (Tryz.prog.info? 74).map (·.size) = some 2 := by kernel_rfl
theorem zeroNum (w : World) : (zeroValue 74).run Tryz.prog w = .ok (.agg #[.int .i64 0, .int .i64 0]) w := by kernel_rfl
theorem zeroCells_num (k : Nat) : (Builtin.zeroCells (Value.cells (.agg #[.int .i64 0, .int .i64 0])) k).toList = numList (List.replicate k (0, 0)) := by
  have hz : Value.cells (.agg #[.int .i64 0, .int .i64 0]) = #[.int .i64 0, .int .i64 0] := by kernel_rfl
  rw [hz]
  unfold Builtin.zeroCells
  apply List.ext_getElem
  · simp [numList_len]
  · intro i h1 h2
    have h3 : i < k * 2 := by simpa using h1
    have e1 : ∀ i, i < k * 2 → (numList (List.replicate k (0, 0)))[i]? = some (.int .i64 0) := by
      intro i hi
      obtain ⟨g1, g2⟩ := numList_get (List.replicate k (0, 0)) (i / 2) (by simp; omega)
      have e : (List.replicate k ((0 : Int), (0 : Int))).getD (i / 2) (0, 0) = (0, 0) := by
        rw [List.getD_eq_getElem?_getD, List.getElem?_replicate]
        split <;> rfl
      rw [e] at g1 g2
      rcases Nat.mod_two_eq_zero_or_one i with h | h
      · rw [show i / 2 * 2 = i by omega] at g1; exact g1
      · rw [show i / 2 * 2 + 1 = i by omega] at g2; exact g2
    have e2 := e1 i h3
    rw [List.getElem?_eq_getElem h2] at e2
    injection e2 with e2
    rw [e2]
    simp
    rcases Nat.mod_two_eq_zero_or_one i with h | h <;> rw [h] <;> rfl
/-- A number k steps further on is the newest. -/
def FdS.leadN (s : FdS) (y k : Nat) (sp : Int) : FdS := { s with newest := y, nums := List.replicate k (0, 0) ++ s.nums.take (250 - k), span := sp }
set_option maxRecDepth 100000 in
set_option maxHeartbeats 4000000 in
theorem feedLead_any (s : FdS) (cl : Value) (step k y : Nat) (h1 : 1 ≤ step) (h2 : step ≤ 281474976710656) (hk : min step 250 = k) (sp0 sp : Nat) (hs0 : s.span = (sp0 : Int)) (hs1 : sp0 ≤ 250) (hsp : min (sp0 + k) 250 = sp)
    (hy : ∀ W, Calls Tryz.prog 76 #[.int .u64 s.newest, .int .i64 step] W fun e w' => e = .returned (.int .u64 y) ∧ W = w') (C : Nat) (w : World) (h : FdAt s cl C w) :
    Calls Tryz.prog 42 #[.pointer (some ⟨C, 0, none⟩), .int .i64 step] w fun e w' => e = .returned (.tuple #[]) ∧ FdAt (s.leadN y k sp) cl C w' ∧ Kept [C] w w' := by
  have HY := Lib.hid hy
  obtain ⟨m1, m2, m3, m4, m5, m6⟩ := mns step 250 k hk
  have m1' : (if (250 : Int) < (step : Int) then (250 : Int) else (step : Int)) = (k : Int) := m1
  have m2' : (if 250 < step then (250 : Int) else (step : Int)) = (k : Int) := m2
  have m3' : min (step : Int) 250 = (k : Int) := m3
  have hk1 : 1 ≤ k := by omega
  have hk2 : k ≤ 250 := by omega
  have a3 := h.head.2.2.2
  have f3 := h.blk.free 3
  have H1 : Hid (FdAt { s with newest := y } cl C (w.setCell ⟨C, 3, none⟩ (.int .u64 y))) := Lib.hid (h.setHead (t := { s with newest := y }) 3 (by decide) _ rfl rfl rfl)
  have HK1 : Hid (Kept [C] w (w.setCell ⟨C, 3, none⟩ (.int .u64 y))) := Lib.hid ((Kept.refl _ _).setCell (.inl (by simp)) _)
  clear h hy
  go_enter Tryz.func42, Tryz.ntmps42
  go_upto_region 2 with (go_at_call 76; (with_reducible refine (HY.out _).mono ?_); rintro e W1 ⟨rfl, rfl⟩)
  have HK1' := HK1.out
  have h1b := H1.out
  obtain ⟨W1, hW1⟩ : ∃ W1, w.setCell ⟨C, 3, none⟩ (.int .u64 y) = W1 := ⟨_, rfl⟩
  rw [hW1] at H1 HK1 ⊢
  clear HK1' h1b hW1 a3 f3
  obtain ⟨o, ho, ho2⟩ : ∃ o, (if 250 = k then (⟨C, 4, none⟩ : Addr) else Addr.add ⟨C, 4, none⟩ (k * 2)) = ⟨C, o, none⟩ ∧ (k < 250 → o = 4 + k * 2) := by
    by_cases h : 250 = k
    · exact ⟨4, if_pos h, fun h2 => by omega⟩
    · refine ⟨4 + k * 2, ?_, fun _ => rfl⟩
      rw [if_neg h]
      unfold Addr.add
      split
      · omega
      · rfl
  have ht : Tryz.prog.underlying 75 = some (.array (Tryz.prog.arrayLen 75) (Tryz.prog.elem 75)) := by kernel_rfl
  have hal : Tryz.prog.arrayLen 75 = 250 := by kernel_rfl
  have hsz : ∀ W, (sizeOf (Tryz.prog.elem 75)).run Tryz.prog W = .ok 2 W := fun W => by kernel_rfl
  have hsl : ∀ W : World, (Instr.sliceAt 75 (.pointer (some ⟨C, 4, none⟩)) (some (.int .i64 (k : Int))) none none).run Tryz.prog W = .ok (.slice (some ⟨C, o, none⟩) (250 - k) (250 - k)) W := fun W => by
    rw [run_sliceAt_array_l W _ _ ht .i64 (k : Int) (by omega) (by rw [hal]; omega), hsz, hal]
    simp only [Result.andThen_ok, slicedAt, Int.toNat_natCast]
    rw [ho]
  have hsh : ∀ W : World, (Instr.sliceAt 75 (.pointer (some ⟨C, 4, none⟩)) none (some (.int .i64 (k : Int))) none).run Tryz.prog W = .ok (.slice (some ⟨C, 4, none⟩) k 250) W := fun W => by
    rw [run_sliceAt_array_h W _ _ ht .i64 (k : Int) (by omega) (by rw [hal]; omega), hsz, hal]
    simp only [Result.andThen_ok, slicedAt, Int.toNat_natCast, Nat.zero_mul, Nat.sub_zero]
    rw [if_neg (by omega)]
    rfl
  clear ht hal hsz
  have HO := Lib.hid ho2
  clear ho ho2
  have mixed : Tryz.prog.follows .mixedOrders = true := by kernel_rfl
  obtain ⟨n1, hn1⟩ : ∃ n1, s.nums.take k ++ s.nums.take (250 - k) = n1 := ⟨_, rfl⟩
  obtain ⟨n2, hn2⟩ : ∃ n2, List.replicate k (0, 0) ++ s.nums.take (250 - k) = n2 := ⟨_, rfl⟩
  have HLEN : Hid (s.nums.length = 250) := Lib.hid H1.out.len
  have HCP : Hid (∀ m ty dc sc, ∃ W2, (Builtin.copy_ #[125, 125] ty #[.slice (some ⟨C, o, none⟩) (250 - k) dc, .slice (some ⟨C, 4, none⟩) 250 sc]).run Tryz.prog (W1.drewN m) = .ok (goInt (250 - k : Nat)) W2 ∧ FdAt { s with newest := y, nums := n1 } cl C W2 ∧ Kept [C] W1 W2) := Lib.hid (fun m ty dc sc => by
    have hd := H1.out.below (bel_drewN W1 m)
    have hl : (numList (s.nums.take (250 - k))).length = (250 - k) * 2 := by rw [numList_len, List.length_take, HLEN.out]; omega
    have e : Nat.min 250 (250 - k) = 250 - k := Nat.min_eq_right (by omega)
    have h := run_copyN (P := Tryz.prog) (W1.drewN m) 125 125 ty 74 2 C o (250 - k) dc ⟨C, 4, none⟩ 250 sc (numList (s.nums.take (250 - k))) Tryz.underlying125 infoNum (by rw [hl, e])
      (fun j v hj => by
        have hadd : (⟨C, 4, none⟩ : Addr).add j = ⟨C, 4 + j, none⟩ := by unfold Addr.add; split <;> simp_all
        rw [hadd]
        exact hd.run (250 - k) (by omega) j v hj)
      (fun j hj => hd.cells _ (by have := HO.out (by omega); omega)) (fun j hj => hd.blk.free _) (fun v hv => numList_one _ v hv)
    rw [e] at h
    refine ⟨_, h, ?_, kept_setCellsF [C] C (.inl (by simp)) _ _ _ ((Kept.refl [C] W1).drewN m)⟩
    by_cases hk3 : k < 250
    · rw [HO.out hk3]
      have h9 := hd.seg (t := { s with newest := y, nums := n1 }) (s.nums.take k) (s.nums.drop k) (s.nums.take (250 - k)) [] (by simp) (by simp [← hn1]) (by simp [HLEN.out]) rfl rfl
      rw [List.length_take, HLEN.out, Nat.min_eq_left (by omega)] at h9
      exact h9
    · have e2 : k = 250 := by omega
      have e3 : n1 = s.nums := by rw [← hn1, e2, Nat.sub_self, List.take_zero, List.append_nil, List.take_of_length_le (by rw [HLEN.out]; omega)]
      rw [e3, e2, Nat.sub_self, List.take_zero]
      exact hd)
  obtain ⟨W2, hcp, hf2, hk2⟩ := HCP.out 1 3 (250 - k) 250
  rw [show W1.drewN 1 = W1.drew from rfl] at hcp
  have HCL : Hid (∀ m ty, ∃ W3, (Builtin.clear_ #[125] ty #[.slice (some ⟨C, 4, none⟩) k 250]).run Tryz.prog (W2.drewN m) = .ok (.tuple #[]) W3 ∧ FdAt { s with newest := y, nums := n2 } cl C W3 ∧ Kept [C] W2 W3) := Lib.hid (fun m ty => by
    have hd := hf2.below (bel_drewN W2 m)
    have h := run_clearN (P := Tryz.prog) (W2.drewN m) 125 74 ty _ (numList (List.replicate k (0, 0))) Tryz.underlying125 zeroNum C 4 k 250 (by omega) (zeroCells_num k) (fun j hj => hd.cells _ (by rw [numList_len, List.length_replicate] at hj; omega)) (fun j hj => hd.blk.free _) (fun v hv => numList_one _ v hv)
    refine ⟨_, h, ?_, kept_setCellsF [C] C (.inl (by simp)) _ _ _ ((Kept.refl [C] W2).drewN m)⟩
    exact hd.seg (t := { s with newest := y, nums := n2 }) [] (s.nums.take k) (List.replicate k (0, 0)) (s.nums.take (250 - k)) (by simp [← hn1]) (by simp [← hn2]) (by simp [HLEN.out]; omega) rfl rfl)
  go_region_law_o (refine step_copy_runI rfl _ _ 125 125 rfl (.slice (some ⟨C, o, none⟩) (250 - k) (250 - k)) (.slice (some ⟨C, 4, none⟩) 250 250) (by simp [Act.eval, Act.put]) (by simp [Act.eval, Act.put]) hcp ?_)
  obtain ⟨W3, hcl, hf3, hk3⟩ := HCL.out 0 0
  rw [show W2.drewN 0 = W2 from rfl] at hcl
  have k3 : Kept [C] w W3 := (HK1.out.trans' hk2).trans' hk3
  have a4 := hf3.tail.1
  simp only at a4
  rw [hs0] at a4
  have f4 := hf3.blk.free 504
  have j1 : IntKind.i64.wrap ((sp0 : Int) + (k : Int)) = ((sp0 + k : Nat) : Int) := by rw [IntKind.wrap_i64]; omega
  obtain ⟨q, hq⟩ : ∃ q, sp0 + k = q := ⟨_, rfl⟩
  rw [hq] at hsp j1
  have j2 : (sp0 : Int) + (k : Int) = (q : Int) := by omega
  obtain ⟨p1, p2, p3, _, _, _⟩ := mns q 250 sp hsp
  have p1' : (if (250 : Int) < (q : Int) then (250 : Int) else (q : Int)) = (sp : Int) := p1
  have p2' : (if 250 < q then (250 : Int) else (q : Int)) = (sp : Int) := p2
  have p3' : min (q : Int) 250 = (sp : Int) := p3
  have HF3 := Lib.hid hf3
  have HK3 := Lib.hid k3
  have HN2 := Lib.hid hn2
  clear hcp hf2 hk2 HCP HCL hf3 hk3 k3 H1 HK1 HLEN hn1 hn2
  go_wp2
  go_end0
  refine ⟨rfl, ?_, HK3.out.setCell (.inl (by simp)) _⟩
  have h9 := HF3.out.setTail (t := s.leadN y k sp) (cl' := cl) 0 (by decide) (.int .i64 sp) rfl (by show List.replicate k (0, 0) ++ s.nums.take (250 - k) = n2; exact HN2.out) rfl
  exact h9
end Go.Proofs.YtbiglbclifbmhaaGreatDoor

namespace Go.Proofs.YtbiglbclifbmhaaGreatDoor
open Go.ChangeShapes Go.WideShapes Go.ChangeAt Go.RowKit Go.Shelf
attribute [local go_sem] Oper.semAt_some
set_option linter.unusedVariables false
set_option linter.unusedSimpArgs false

/-- How many of the first k are got. -/
def gotN (l : List (Int × Int)) (k : Nat) : Nat := (l.take k).countP fun p => p.1 == 1
theorem gotN_succ (l : List (Int × Int)) (k : Nat) (h : k < l.length) : gotN l (k + 1) = gotN l k + (if (l.getD k (0, 0)).1 == 1 then 1 else 0) := by
  unfold gotN
  rw [List.take_add_one, List.countP_append, List.getElem?_eq_getElem h, List.getD_eq_getElem?_getD, List.getElem?_eq_getElem h]
  simp
theorem gotN_le (l : List (Int × Int)) (k : Nat) : gotN l k ≤ k := by
  unfold gotN
  exact Nat.le_trans List.countP_le_length (by rw [List.length_take]; omega)
set_option maxRecDepth 100000 in
set_option maxHeartbeats 4000000 in
theorem feedLose_none (s : FdS) (cl : Value) (sp : Nat) (hsp : s.span = (sp : Int)) (hsp2 : sp ≤ 250) (hno : ∀ k, k < sp → (s.nums.getD k (0, 0)).1 = 0 → gotN s.nums k < 3) (C : Nat) (w : World) (h : FdAt s cl C w) :
    Calls Tryz.prog 43 #[.pointer (some ⟨C, 0, none⟩)] w fun e w' => e = .returned (.tuple #[]) ∧ Below w.heap.size w w' := by
  have HNO := Lib.hid hno
  have HLEN : Hid (s.nums.length = 250) := Lib.hid h.len
  have HB1 : Hid (BlkIs #[.pointer (some ⟨C, 0, none⟩)] 24 w.heap.size (w.alloc (.cells #[.pointer (some ⟨C, 0, none⟩)] 24))) := Lib.hid (BlkIs.new _ _ _)
  have HW1 : Hid (Below w.heap.size w (w.alloc (.cells #[.pointer (some ⟨C, 0, none⟩)] 24))) := Lib.hid (bel_alloc _ _)
  have HF1 : Hid (FdAt s cl C (w.alloc (.cells #[.pointer (some ⟨C, 0, none⟩)] 24))) := Lib.hid (h.below (bel_alloc _ _))
  have b2 : (w.alloc (.cells #[.pointer (some ⟨C, 0, none⟩)] 24)).cell? ⟨C, 504, none⟩ = some (.int .i64 (sp : Int)) := by rw [HF1.out.tail.1, hsp]
  have b3 : (w.alloc (.cells #[.pointer (some ⟨C, 0, none⟩)] 24)).cell? ⟨w.heap.size, 0, none⟩ = some (.pointer (some ⟨C, 0, none⟩)) := BlkIs.cell HB1.out 0
  clear h hno hsp
  refine (callsIn_wide (n := 6)).1 ?_
  refine callsIn_of_wp_marks Tryz.func43 rfl trivial ?_ rfl
  simp only [Tryz.ntmps43, List.size_toArray, List.length_cons, List.length_nil, Nat.reduceAdd, Nat.reduceSub, Array.replicate_succ, Array.replicate_zero, List.push_toArray, List.append_toArray, List.nil_append, List.cons_append]
  gi_wp2
  generalize w.alloc (.cells #[.pointer (some ⟨C, 0, none⟩)] 24) = W1 at *
  obtain ⟨B, hB⟩ : ∃ B, w.heap.size = B := ⟨_, rfl⟩
  rw [hB] at b3 HB1 ⊢
  have HBe := Lib.hid hB
  clear hB
  gi_loopw [2, 3, 4, 13] (fun a f t i wr => ∃ (k : Nat) (t' : Int), k ≤ sp ∧ i = .int .i64 (k : Int) ∧ a = .slice none 0 0 ∧ f = .int .i64 (gotN s.nums k : Nat) ∧ t = .int .i64 t' ∧ ∃ n, wr = W1.drewN n) (fun _ _ _ i _ => sp - (intOf i).toNat)
  case atStart => exact ⟨0, 0, by omega, rfl, rfl, rfl, rfl, 0, rfl⟩
  case round =>
    obtain ⟨k, t', hk, rfl, rfl, rfl, rfl, n, rfl⟩ := hrel
    by_cases hk0 : k < sp
    · have hno := HNO.out k hk0
      have hgs := gotN_succ s.nums k (by rw [HLEN.out]; omega)
      have hgl := gotN_le s.nums k
      obtain ⟨x0, x1⟩ := HF1.out.num k (by omega)
      generalize s.nums.getD k (0, 0) = r at *
      obtain ⟨rs, ra⟩ := r
      simp only at hno hgs x0 x1
      generalize gotN s.nums k = G at *
      have HGS := Lib.hid hgs
      clear hgs
      by_cases h1 : rs = 1
      · subst h1
        clear hno
        gi_wp2
        gi_region
        all_goals
          gi_wp2
          go_roundw
          case rel => exact ⟨k + 1, ra, by omega, by go_num, rfl, by rw [HGS.out]; go_num, rfl, n + 1, by first | rfl | exact (World.drewN_drewN W1 n 1).symm | exact World.drewN_drewN W1 n 1⟩
          case measure => simp [intOf]; omega
      · have h1b : (rs == 1) = false := by rw [beq_eq_false_iff_ne]; exact h1
        rw [h1b] at HGS
        by_cases h2 : rs = 0
        · subst h2
          have hG : ¬ 3 ≤ G := by have := hno rfl; omega
          have hGi : decide ((3 : Int) ≤ (G : Int)) = false := decide_eq_false (by omega)
          clear hno
          gi_wp2
          go_roundw
          case rel => exact ⟨k + 1, t', by omega, by go_num, rfl, by rw [HGS.out]; rfl, rfl, n, rfl⟩
          case measure => simp [intOf]; omega
        · have h2b : (rs == 0) = false := by rw [beq_eq_false_iff_ne]; exact h2
          clear hno
          gi_wp2
          go_roundw
          case rel => exact ⟨k + 1, t', by omega, by go_num, rfl, by rw [HGS.out]; rfl, rfl, n, rfl⟩
          case measure => simp [intOf]; omega
    · obtain rfl : k = sp := by omega
      have HW2 : Hid (Below w.heap.size w (W1.drewN n)) := Lib.hid (bel_trans HW1.out (bel_drewN _ _))
      clear b2 b3 HF1 HB1
      generalize W1.drewN n = W2 at *
      generalize gotN s.nums k = G at *
      gi_wp2_with (refine ⟨trivial, ?_⟩; gi_at_call 77; refine (backL_in Fence.wide _ trivial rfl _ _ _ _).mono ?_; rintro e w2 ⟨rfl, rfl⟩)
      have hbx := BlkIs.cell (BlkIs.new #[.slice none 0 0] 126 W2) 0
      have HW3 : Hid (Below w.heap.size w (W2.alloc (.cells #[.slice none 0 0] 126))) := Lib.hid (bel_trans HW2.out (bel_alloc _ _))
      refine wpIn_rangeFunc_ownF rfl (by decide) (gf := 106) (lb := #[.pointer (some ⟨W2.heap.size, 0, none⟩)]) rfl trivial (enters_of Tryz.func106 (by kernel_rfl) rfl)
        (backL_stops Fence.wide 5 trivial rfl W2.heap.size 0 none _ (by simp) hbx (fun _ _ => True)) (fun _ _ => trivial) (fun _ _ _ _ _ _ _ _ => trivial) (Below.refl _ _) (fun x => x.elim)
        (fun _ W => Below w.heap.size w W) (fun _ _ _ => False) (ownFrom_below (Nat.le_refl _) HW3.out.size) (fun _ _ _ _ _ hs _ _ => hs) HW3.out (fun x => x.elim) ?assign ?body ?done ?stop
      case assign => intro l x; exact x.elim
      case body => intro l pre x; exact x.elim
      case done =>
        rintro D ys W hD rfl hB hK
        gi_wp2
        refine ⟨by simp, .inl ⟨_, _, rfl, run_takeDeferred hK, ?_⟩⟩
        exact ⟨_, results_none rfl _ _ _, rfl, hB.trans (belowK_b (w := w) (Nat.le_refl _) W D _ _ (Nat.le_trans HW3.out.size hD) hK rfl rfl)⟩
      case stop =>
        rintro D c pre W _ _ h _
        exact h.elim
end Go.Proofs.YtbiglbclifbmhaaGreatDoor

namespace Go.Proofs.YtbiglbclifbmhaaGreatDoor
open Go.ChangeShapes Go.WideShapes Go.ChangeAt Go.RowKit
set_option linter.unusedVariables false
set_option linter.unusedSimpArgs false

/-- One of the numbers is written. -/
theorem FdAt.setNum {s t : FdS} {cl : Value} {C : Nat} {w : World} (h : FdAt s cl C w) (a : Nat) (ha : a < 250) (p : Int × Int) (ht : t.nums = s.nums.set a p) (e1 : fdHead t = fdHead s) (e3 : fdTail t cl = fdTail s cl) :
    FdAt t cl C ((w.setCell ⟨C, 4 + a * 2, none⟩ (.int .i64 p.1)).setCell ⟨C, 4 + a * 2 + 1, none⟩ (.int .i64 p.2)) := by
  have hl : (s.nums.take a).length = a := by rw [List.length_take, h.len]; omega
  have e : s.nums = s.nums.take a ++ ([s.nums.getD a (0, 0)] ++ s.nums.drop (a + 1)) := by
    rw [List.getD_eq_getElem?_getD, List.getElem?_eq_getElem (by rw [h.len]; exact ha)]
    simp
  have e2 : t.nums = s.nums.take a ++ ([p] ++ s.nums.drop (a + 1)) := by
    rw [ht, List.set_eq_take_append_cons_drop, if_pos (by rw [h.len]; exact ha)]
    rfl
  have h1 := h.seg (t := t) (s.nums.take a) [s.nums.getD a (0, 0)] [p] (s.nums.drop (a + 1)) e e2 rfl e1 e3
  rw [hl] at h1
  exact h1
/-- What a number of age a leaves. -/
def FdS.putN (s : FdS) (N : Int) (a : Nat) (sz : Nat) : FdS := { s with now := N, nums := s.nums.set a (1, N), bytes := s.bytes + sz }
set_option maxRecDepth 100000 in
set_option maxHeartbeats 4000000 in
theorem feedPut_lead (s : FdS) (N : Int) (cl : Value) (now : Int) (hN : max s.now (min now 4611686018427387904) = N) (n : Nat) (step k y sp0 sp : Nat) (g1 : 1 ≤ step) (g2 : step ≤ 140737488355328) (g3 : min step 250 = k) (g4 : s.span = (sp0 : Int)) (g5 : 1 ≤ sp0) (g5b : sp0 ≤ 250) (g6 : min (sp0 + k) 250 = sp)
    (g7 : ∀ W, Calls Tryz.prog 76 #[.int .u64 s.newest, .int .i64 step] W fun e w' => e = .returned (.int .u64 y) ∧ W = w')
    (hd : ∀ W, Calls Tryz.prog 41 #[.int .u64 s.newest, .int .u64 n] W fun e w' => e = .returned (.int .i64 (-(step : Int))) ∧ W = w')
    (s1 : FdS) (hs1 : FdS.leadN { s with now := N } y k sp = s1)
    (hno : ∀ k, k < sp → ((s1.nums.set 0 (1, N)).getD k (0, 0)).1 = 0 → gotN (s1.nums.set 0 (1, N)) k < 3)
    (sz : Nat) (hsz : sz ≤ 65535) (hby : s.bytes ≤ 1099511627776) (C : Nat) (w : World) (h : FdAt s cl C w) :
    Calls Tryz.prog 7 #[.pointer (some ⟨C, 0, none⟩), .int .i64 now, .int .u64 n, .int .i64 sz] w fun e w' => e = .returned (.bool true) ∧ FdAt (s1.putN N 0 sz) cl C w' ∧ Kept [C] w w' := by
  have HP := Lib.hid (feedPass_any s cl now C w h)
  rw [hN] at HP
  have HD := Lib.hid hd
  have HNO := Lib.hid hno
  have hsp2 : sp ≤ 250 := by omega
  have hsi : s1.span = (sp : Int) := by rw [← hs1]; rfl
  have hby1 : s1.bytes = s.bytes := by rw [← hs1]; rfl
  have hnow : s1.now = N := by rw [← hs1]; rfl
  have hm : (s1.nums.getD 0 (0, 0)).1 = 0 := by
    rw [← hs1]
    show ((List.replicate k ((0 : Int), (0 : Int)) ++ s.nums.take (250 - k)).getD 0 (0, 0)).1 = 0
    obtain ⟨k2, rfl⟩ : ∃ k2, k = k2 + 1 := ⟨k - 1, by omega⟩
    rfl
  have HL0 : Hid (∀ W, FdAt { s with now := N } cl C W → Calls Tryz.prog 42 #[.pointer (some ⟨C, 0, none⟩), .int .i64 step] W fun e w' => e = .returned (.tuple #[]) ∧ FdAt s1 cl C w' ∧ Kept [C] W w') := Lib.hid (fun W hW => by
    have h9 := feedLead_any { s with now := N } cl step k y g1 (by omega) g3 sp0 sp g4 g5b g6 g7 C W hW
    rw [hs1] at h9
    exact h9)
  have hs0 : ¬ s.span = 0 := by omega
  clear g7
  have HSI := Lib.hid hsi
  have HNW := Lib.hid hnow
  have HBY := Lib.hid hby1
  have HM := Lib.hid hm
  have hsb : (s.span == 0) = false := by rw [beq_eq_false_iff_ne]; exact hs0
  have HS1 := Lib.hid hs1
  clear h hd hN hno hsi hby1 hnow hm hs1
  go_enter Tryz.func7, Tryz.ntmps7
  go_upto_region 4 with (go_at_call 40; (with_reducible refine HP.out.mono ?_); rintro e W1 ⟨rfl, h1, hk1⟩)
  have a5 := h1.tail.1
  have a3 := h1.head.2.2.2
  simp only at a5 a3
  have H1 := Lib.hid h1
  have HK1 := Lib.hid hk1
  clear h1 hk1
  go_upto_region 7 with (go_at_call 41; (with_reducible refine (HD.out _).mono ?_); rintro e w1 ⟨rfl, rfl⟩)
  have i0 : decide (-(step : Int) < 0) = true := decide_eq_true (by omega)
  have i1 : -(step : Int) < 0 := by omega
  have i2 : IntKind.i64.wrap (step : Int) = (step : Int) := by rw [IntKind.wrap_i64]; omega
  have i3 : IntKind.i64.wrap (-(-(step : Int))) = (step : Int) := by rw [Int.neg_neg]; exact i2
  clear a3 a5
  go_upto_region 10 with (go_at_call 42; (with_reducible refine (HL0.out _ H1.out).mono ?_); rintro e W3 ⟨rfl, h3, hk3⟩)
  have hk4 := HK1.out.trans' hk3
  clear hk3 H1 HK1 HL0 i0 i1 i2 i3
  have b4 := (h3.num 0 (by omega)).1
  rw [HM.out] at b4
  simp only [Nat.zero_mul, Nat.add_zero] at b4
  have b5 := (h3.num 0 (by decide)).2
  simp only [Nat.zero_mul, Nat.add_zero, Nat.reduceAdd] at b5
  have b1 := h3.head.2.1
  rw [HNW.out] at b1
  have g4' := h3.blk.free (4)
  have g5' := h3.blk.free (5)
  have H3 := Lib.hid h3
  have HK4 := Lib.hid hk4
  clear h3 hk4
  go_upto_region 12 with fail
  go_region
  obtain ⟨W5, hW5⟩ : ∃ W5, ((W3.setCell ⟨C, 4, none⟩ (.int .i64 1)).setCell ⟨C, 5, none⟩ (.int .i64 N)).drew = W5 := ⟨_, rfl⟩
  have h5 : FdAt { s1 with nums := s1.nums.set 0 (1, N) } cl C W5 := by
    rw [← hW5]
    exact (FdAt.setNum (t := { s1 with nums := s1.nums.set 0 (1, N) }) H3.out 0 (by omega) (1, N) rfl rfl rfl).below ⟨rfl, rfl, rfl, Nat.le_refl _, fun _ _ => rfl⟩
  have hk5 : Kept [C] w W5 := by rw [← hW5]; exact ((HK4.out.setCell (.inl (by simp)) _).setCell (.inl (by simp)) _).drew
  rw [hW5]
  clear hW5 b4 b5 b1 g4' g5' H3 HK4
  have d9 := h5.tail.2.2.2.2.2.1
  simp only at d9
  rw [HBY.out] at d9
  have g9 := h5.blk.free 509
  have i1 : (if (sz : Int) < 0 then 0 else (sz : Int)) = (sz : Int) := if_neg (by omega)
  have i2 : (if (65535 : Int) < (sz : Int) then 65535 else (sz : Int)) = (sz : Int) := if_neg (by omega)
  have i3 : max (sz : Int) 0 = (sz : Int) := by omega
  have i4 : min (sz : Int) 65535 = (sz : Int) := by omega
  have i5 : ¬ (65535 < sz) := by omega
  have hszi : (sz : Int) ≤ 65535 := by omega
  obtain ⟨Z, hZ⟩ : ∃ Z, s.bytes + sz = Z := ⟨_, rfl⟩
  have j1 : (s.bytes : Int) + (sz : Int) = (Z : Int) := by omega
  have j2 : (Z : Int) ≤ 1099511693311 := by omega
  have HZ := Lib.hid hZ
  have H5 := Lib.hid h5
  have HK5 := Lib.hid hk5
  clear hZ h5 hk5
  go_upto_region 14 with fail
  obtain ⟨W6, hW6⟩ : ∃ W6, W5.setCell ⟨C, 509, none⟩ (.int .u64 Z) = W6 := ⟨_, rfl⟩
  have h6 : FdAt (s1.putN N 0 sz) cl C W6 := by
    rw [← hW6]
    exact H5.out.setTail (t := s1.putN N 0 sz) (cl' := cl) 5 (by decide) _ (by unfold FdS.putN fdHead; rw [HNW.out]) rfl (by unfold FdS.putN; rw [HBY.out, HZ.out]; rfl)
  have hk6 : Kept [C] w W6 := by rw [← hW6]; exact HK5.out.setCell (.inl (by simp)) _
  have HL := Lib.hid (feedLose_none (s1.putN N 0 sz) cl sp HSI.out hsp2 HNO.out C W6 h6)
  rw [hW6]
  clear hW6 d9 g9 i1 i2 i3 i4 i5
  go_wp2_with (go_at_call 43; (with_reducible refine HL.out.mono ?_); rintro e W7 ⟨rfl, hb7⟩)
  go_ret
  exact ⟨rfl, h6.below hb7, hk6.trans' (Kept.of_below _ hb7)⟩
set_option maxRecDepth 100000 in
set_option maxHeartbeats 4000000 in
theorem feedPut_fill (s : FdS) (N : Int) (cl : Value) (now : Int) (hN : max s.now (min now 4611686018427387904) = N) (n : Nat) (sp a : Nat) (ha : a < 250) (hsp : s.span = (sp : Int)) (hsp1 : 1 ≤ sp) (hsp2 : sp ≤ 250)
    (hd : ∀ W, Calls Tryz.prog 41 #[.int .u64 s.newest, .int .u64 n] W fun e w' => e = .returned (.int .i64 (a : Int)) ∧ W = w')
    (s1 : FdS) (hs1 : { s with now := N } = s1) (hm : (s1.nums.getD a (0, 0)).1 = 0)
    (hno : ∀ k, k < sp → ((s1.nums.set a (1, N)).getD k (0, 0)).1 = 0 → gotN (s1.nums.set a (1, N)) k < 3)
    (sz : Nat) (hsz : sz ≤ 65535) (hby : s.bytes ≤ 1099511627776) (C : Nat) (w : World) (h : FdAt s cl C w) :
    Calls Tryz.prog 7 #[.pointer (some ⟨C, 0, none⟩), .int .i64 now, .int .u64 n, .int .i64 sz] w fun e w' => e = .returned (.bool true) ∧ FdAt (s1.putN N a sz) cl C w' ∧ Kept [C] w w' := by
  have HP := Lib.hid (feedPass_any s cl now C w h)
  rw [hN] at HP
  have HD := Lib.hid hd
  have HNO := Lib.hid hno
  have hsi : s1.span = (sp : Int) := by rw [← hs1]; exact hsp
  have hby1 : s1.bytes = s.bytes := by rw [← hs1]
  have hnow : s1.now = N := by rw [← hs1]
  have hs0 : ¬ s.span = 0 := by omega
  have HSI := Lib.hid hsi
  have HNW := Lib.hid hnow
  have HBY := Lib.hid hby1
  have HM := Lib.hid hm
  have hsb : (s.span == 0) = false := by rw [beq_eq_false_iff_ne]; exact hs0
  have HS1 := Lib.hid hs1
  clear h hd hN hno hsi hby1 hnow hm hs1
  go_enter Tryz.func7, Tryz.ntmps7
  go_upto_region 4 with (go_at_call 40; (with_reducible refine HP.out.mono ?_); rintro e W1 ⟨rfl, h1, hk1⟩)
  have a5 := h1.tail.1
  have a3 := h1.head.2.2.2
  simp only at a5 a3
  have H1 := Lib.hid h1
  have HK1 := Lib.hid hk1
  clear h1 hk1
  go_upto_region 7 with (go_at_call 41; (with_reducible refine (HD.out _).mono ?_); rintro e w1 ⟨rfl, rfl⟩)
  have i0 : decide ((a : Int) < 0) = false := decide_eq_false (by omega)
  have i1 : ¬ (a : Int) < 0 := by omega
  clear a3 a5
  go_upto_region 10 with fail
  have h3 : FdAt s1 cl C W1 := by rw [← HS1.out]; exact H1.out
  have hk4 := HK1.out
  clear H1 HK1 i0 i1
  have b4 := (h3.num a (by omega)).1
  rw [HM.out] at b4
  have b5 := (h3.num a (by omega)).2
  have i3 : decide ((250 : Int) ≤ (a : Int)) = false := decide_eq_false (by omega)
  have i4 : ¬ 250 ≤ a := by omega
  have b1 := h3.head.2.1
  rw [HNW.out] at b1
  have g4' := h3.blk.free (4 + a * 2)
  have g5' := h3.blk.free (4 + a * 2 + 1)
  have H3 := Lib.hid h3
  have HK4 := Lib.hid hk4
  clear h3 hk4
  go_upto_region 12 with fail
  go_region
  obtain ⟨W5, hW5⟩ : ∃ W5, ((W1.setCell ⟨C, 4 + a * 2, none⟩ (.int .i64 1)).setCell ⟨C, 4 + a * 2 + 1, none⟩ (.int .i64 N)).drew = W5 := ⟨_, rfl⟩
  have h5 : FdAt { s1 with nums := s1.nums.set a (1, N) } cl C W5 := by
    rw [← hW5]
    exact (FdAt.setNum (t := { s1 with nums := s1.nums.set a (1, N) }) H3.out a (by omega) (1, N) rfl rfl rfl).below ⟨rfl, rfl, rfl, Nat.le_refl _, fun _ _ => rfl⟩
  have hk5 : Kept [C] w W5 := by rw [← hW5]; exact ((HK4.out.setCell (.inl (by simp)) _).setCell (.inl (by simp)) _).drew
  rw [hW5]
  clear hW5 b4 b5 b1 g4' g5' H3 HK4
  have d9 := h5.tail.2.2.2.2.2.1
  simp only at d9
  rw [HBY.out] at d9
  have g9 := h5.blk.free 509
  have i1 : (if (sz : Int) < 0 then 0 else (sz : Int)) = (sz : Int) := if_neg (by omega)
  have i2 : (if (65535 : Int) < (sz : Int) then 65535 else (sz : Int)) = (sz : Int) := if_neg (by omega)
  have i3 : max (sz : Int) 0 = (sz : Int) := by omega
  have i4 : min (sz : Int) 65535 = (sz : Int) := by omega
  have i5 : ¬ (65535 < sz) := by omega
  have hszi : (sz : Int) ≤ 65535 := by omega
  obtain ⟨Z, hZ⟩ : ∃ Z, s.bytes + sz = Z := ⟨_, rfl⟩
  have j1 : (s.bytes : Int) + (sz : Int) = (Z : Int) := by omega
  have j2 : (Z : Int) ≤ 1099511693311 := by omega
  have HZ := Lib.hid hZ
  have H5 := Lib.hid h5
  have HK5 := Lib.hid hk5
  clear hZ h5 hk5
  go_upto_region 14 with fail
  obtain ⟨W6, hW6⟩ : ∃ W6, W5.setCell ⟨C, 509, none⟩ (.int .u64 Z) = W6 := ⟨_, rfl⟩
  have h6 : FdAt (s1.putN N a sz) cl C W6 := by
    rw [← hW6]
    exact H5.out.setTail (t := s1.putN N a sz) (cl' := cl) 5 (by decide) _ (by unfold FdS.putN fdHead; rw [HNW.out]) rfl (by unfold FdS.putN; rw [HBY.out, HZ.out]; rfl)
  have hk6 : Kept [C] w W6 := by rw [← hW6]; exact HK5.out.setCell (.inl (by simp)) _
  have HL := Lib.hid (feedLose_none (s1.putN N a sz) cl sp HSI.out hsp2 HNO.out C W6 h6)
  rw [hW6]
  clear hW6 d9 g9 i1 i2 i3 i4 i5
  go_wp2_with (go_at_call 43; (with_reducible refine HL.out.mono ?_); rintro e W7 ⟨rfl, hb7⟩)
  go_ret
  exact ⟨rfl, h6.below hb7, hk6.trans' (Kept.of_below _ hb7)⟩
end Go.Proofs.YtbiglbclifbmhaaGreatDoor

namespace Go.Proofs.YtbiglbclifbmhaaGreatDoor
set_option linter.unusedVariables false
set_option linter.unusedSimpArgs false

/-- How far one goes up from a to b. -/
def lenU (a b : Nat) : Nat := (b + 281474976710656 - a) % 281474976710656
theorem lenU_lt (a b : Nat) : lenU a b < 281474976710656 := Nat.mod_lt _ (by decide)
/-- The number i below y. -/
def ageN (y i : Nat) : Nat := (y + 281474976710656 - i) % 281474976710656
theorem ageN_lt (y i : Nat) : ageN y i < 281474976710656 := Nat.mod_lt _ (by decide)
theorem ageN_step (y i : Nat) (hi : i ≤ 1000) : stepI y (-(i : Int)) = (ageN y i : Int) := by unfold stepI ageN; omega
/-- What is kept, and the intervals that are closed. -/
structure FeS where
  s : FdS
  l : List Nat
def FeS.take (x : FeS) (e : Nat × Int) : FeS :=
  if x.l = [] then ⟨{ x.s with lost := x.s.lost + 1, en := e.1, eat := e.2 }, [max (lenU x.s.first e.1) 1]⟩
  else if x.s.eat + x.s.round < e.2 then ⟨{ x.s with lost := x.s.lost + 1, en := e.1, eat := e.2 }, (lenU x.s.en e.1 :: x.l).take 8⟩
  else ⟨{ x.s with lost := x.s.lost + 1 }, x.l⟩
/-- Behind so many ages: how many were got, when the last of these was, which are lost, the numbers. -/
structure LwS where
  f : Nat
  t : Int
  ls : List (Nat × Int)
  nums : List (Int × Int)
def LwS.step (y : Nat) (u : LwS) (i : Nat) : LwS :=
  if (u.nums.getD i (0, 0)).1 = 1 then ⟨u.f + 1, (u.nums.getD i (0, 0)).2, u.ls, u.nums⟩
  else if (u.nums.getD i (0, 0)).1 = 0 ∧ 3 ≤ u.f then ⟨u.f, u.t, u.ls ++ [(ageN y i, u.t)], u.nums.set i (2, (u.nums.getD i (0, 0)).2)⟩
  else u
def LwS.upto (y : Nat) (L : List (Int × Int)) : Nat → LwS
  | 0 => ⟨0, 0, [], L⟩
  | k + 1 => (LwS.upto y L k).step y k
def FeS.lose (x : FeS) (sp : Nat) : FeS :=
  (LwS.upto x.s.newest x.s.nums sp).ls.reverse.foldl FeS.take ⟨{ x.s with nums := (LwS.upto x.s.newest x.s.nums sp).nums }, x.l⟩
/-- The first one that is put. -/
def FeS.at1 (x : FeS) (N : Int) (n : Nat) : FdS := if x.s.span = 0 then { x.s with now := N, first := n, newest := n, span := 1, since := N } else { x.s with now := N }
def FdS.led (s : FdS) (n : Nat) : FdS :=
  if diffI s.newest n < 0 then s.leadN (stepI s.newest (-(diffI s.newest n))).toNat (min (-(diffI s.newest n)).toNat 250) (min (s.span.toNat + min (-(diffI s.newest n)).toNat 250) 250 : Nat) else s
def ageOf (s : FdS) (n : Nat) : Nat := (diffI s.newest n).toNat
def FeS.put (x : FeS) (N : Int) (n sz : Nat) : Bool × FeS :=
  if 250 ≤ ageOf (x.at1 N n) n ∨ (((x.at1 N n).led n).nums.getD (ageOf (x.at1 N n) n) (0, 0)).1 ≠ 0 then (false, ⟨(x.at1 N n).led n, x.l⟩)
  else (true, FeS.lose ⟨((x.at1 N n).led n).putN N (ageOf (x.at1 N n) n) sz, x.l⟩ ((x.at1 N n).led n).span.toNat)
theorem LwS.upto_len (y : Nat) (L : List (Int × Int)) : ∀ k, (LwS.upto y L k).nums.length = L.length
  | 0 => rfl
  | k + 1 => by
    have h := LwS.upto_len y L k
    unfold LwS.upto LwS.step
    split
    · exact h
    · split
      · rw [List.length_set]; exact h
      · exact h
theorem LwS.upto_few (y : Nat) (L : List (Int × Int)) : ∀ k, (LwS.upto y L k).f ≤ k ∧ (LwS.upto y L k).ls.length ≤ k
  | 0 => ⟨Nat.le_refl _, Nat.le_refl _⟩
  | k + 1 => by
    have h := LwS.upto_few y L k
    unfold LwS.upto LwS.step
    split
    · exact ⟨by simp only; omega, by simp only; omega⟩
    · split
      · exact ⟨by simp only; omega, by simp only [List.length_append, List.length_cons, List.length_nil]; omega⟩
      · exact ⟨by omega, by omega⟩
theorem LwS.upto_high (y : Nat) (L : List (Int × Int)) : ∀ k i, k ≤ i → (LwS.upto y L k).nums.getD i (0, 0) = L.getD i (0, 0)
  | 0, i, _ => rfl
  | k + 1, i, hi => by
    have h := LwS.upto_high y L k i (by omega)
    unfold LwS.upto LwS.step
    split
    · exact h
    · split
      · rw [List.getD_eq_getElem?_getD, List.getElem?_set, if_neg (by omega), ← List.getD_eq_getElem?_getD]; exact h
      · exact h
/-- Times lie from 0 to the latest one. -/
def timeOk (t : Int) : Prop := 0 ≤ t ∧ t ≤ 4611686018427387904
def timesOk (L : List (Int × Int)) : Prop := ∀ p ∈ L, timeOk p.2
theorem timesOk.get {L : List (Int × Int)} (h : timesOk L) (i : Nat) : timeOk (L.getD i (0, 0)).2 := by
  rw [List.getD_eq_getElem?_getD]
  rcases Nat.lt_or_ge i L.length with hi | hi
  · rw [List.getElem?_eq_getElem hi]; exact h _ (List.getElem_mem hi)
  · rw [List.getElem?_eq_none hi]; exact ⟨by decide, by decide⟩
theorem timesOk.set {L : List (Int × Int)} (h : timesOk L) (i : Nat) (p : Int × Int) (hp : timeOk p.2) : timesOk (L.set i p) := fun q hq => by
  rcases List.mem_or_eq_of_mem_set hq with h1 | h1
  · exact h q h1
  · rw [h1]; exact hp
theorem LwS.upto_ok (y : Nat) (L : List (Int × Int)) (h : timesOk L) : ∀ k, timesOk (LwS.upto y L k).nums ∧ timeOk (LwS.upto y L k).t ∧ ∀ e ∈ (LwS.upto y L k).ls, e.1 < 281474976710656 ∧ timeOk e.2
  | 0 => ⟨h, ⟨Int.le_refl 0, (by decide : (0 : Int) ≤ 4611686018427387904)⟩, fun e he => by cases he⟩
  | k + 1 => by
    obtain ⟨h1, h2, h3⟩ := LwS.upto_ok y L h k
    unfold LwS.upto LwS.step
    split
    · exact ⟨h1, h1.get k, h3⟩
    · split
      · refine ⟨h1.set _ _ (h1.get k), h2, fun e he => ?_⟩
        rcases List.mem_append.1 he with he | he
        · exact h3 e he
        · rw [List.mem_singleton.1 he]; exact ⟨ageN_lt _ _, h2⟩
      · exact ⟨h1, h2, h3⟩
/-- What always holds; K: how many were taken for lost at most. -/
structure FeS.Ok (x : FeS) (K : Nat) : Prop where
  first : x.s.first < 281474976710656
  en : x.s.en < 281474976710656
  eat : timeOk x.s.eat
  round : 0 ≤ x.s.round ∧ x.s.round ≤ 4294967296
  lost : 0 ≤ x.s.lost ∧ x.s.lost ≤ K
  ll : x.l.length ≤ 8
  lv : ∀ v ∈ x.l, v < 281474976710656
theorem FeS.Ok.take {x : FeS} {K : Nat} (h : x.Ok K) (e : Nat × Int) (h1 : e.1 < 281474976710656) (h2 : timeOk e.2) : (x.take e).Ok (K + 1) := by
  have hl := h.lost
  unfold FeS.take
  split
  · refine ⟨h.first, h1, h2, h.round, ⟨by simp only; omega, by simp only; omega⟩, by simp, fun v hv => ?_⟩
    rw [List.mem_singleton.1 hv]
    have := lenU_lt x.s.first e.1
    omega
  · split
    · refine ⟨h.first, h1, h2, h.round, ⟨by simp only; omega, by simp only; omega⟩, by rw [List.length_take]; omega, fun v hv => ?_⟩
      rcases List.mem_cons.1 (List.mem_of_mem_take hv) with h3 | h3
      · rw [h3]; exact lenU_lt _ _
      · exact h.lv v h3
    · exact ⟨h.first, h.en, h.eat, h.round, ⟨by simp only; omega, by simp only; omega⟩, h.ll, h.lv⟩
theorem FeS.Ok.takes {x : FeS} {K : Nat} (h : x.Ok K) (es : List (Nat × Int)) (he : ∀ e ∈ es, e.1 < 281474976710656 ∧ timeOk e.2) : (es.foldl FeS.take x).Ok (K + es.length) := by
  induction es generalizing x K with
  | nil => exact h
  | cons e es ih =>
    have h1 := ih (h.take e (he e (by simp)).1 (he e (by simp)).2) (fun e' h' => he e' (by simp [h']))
    rw [List.length_cons, show K + (es.length + 1) = K + 1 + es.length by omega]
    exact h1
/-- All but the losses stays. -/
theorem FeS.take_rest (x : FeS) (e : Nat × Int) : (x.take e).s.now = x.s.now ∧ (x.take e).s.first = x.s.first ∧ (x.take e).s.newest = x.s.newest ∧ (x.take e).s.nums = x.s.nums ∧ (x.take e).s.span = x.s.span ∧ (x.take e).s.bytes = x.s.bytes ∧ (x.take e).s.since = x.s.since ∧ (x.take e).s.round = x.s.round ∧ (x.take e).s.lost = x.s.lost + 1 ∧ (x.take e).l ≠ [] := by
  unfold FeS.take
  split
  · exact ⟨rfl, rfl, rfl, rfl, rfl, rfl, rfl, rfl, rfl, by simp⟩
  · split
    · exact ⟨rfl, rfl, rfl, rfl, rfl, rfl, rfl, rfl, rfl, by simp⟩
    · exact ⟨rfl, rfl, rfl, rfl, rfl, rfl, rfl, rfl, rfl, by assumption⟩
theorem FeS.takes_rest (es : List (Nat × Int)) : ∀ x : FeS, (es.foldl FeS.take x).s.now = x.s.now ∧ (es.foldl FeS.take x).s.first = x.s.first ∧ (es.foldl FeS.take x).s.newest = x.s.newest ∧ (es.foldl FeS.take x).s.nums = x.s.nums ∧ (es.foldl FeS.take x).s.span = x.s.span ∧ (es.foldl FeS.take x).s.bytes = x.s.bytes ∧ (es.foldl FeS.take x).s.since = x.s.since ∧ (es.foldl FeS.take x).s.round = x.s.round ∧ (es.foldl FeS.take x).s.lost = x.s.lost + es.length := by
  induction es with
  | nil => intro x; exact ⟨rfl, rfl, rfl, rfl, rfl, rfl, rfl, rfl, by simp⟩
  | cons e es ih =>
    intro x
    obtain ⟨h1, h2, h3, h4, h5, h6, h7, h8, h9⟩ := ih (x.take e)
    obtain ⟨g1, g2, g3, g4, g5, g6, g7, g8, g9, _⟩ := x.take_rest e
    rw [List.foldl_cons]
    refine ⟨h1.trans g1, h2.trans g2, h3.trans g3, h4.trans g4, h5.trans g5, h6.trans g6, h7.trans g7, h8.trans g8, ?_⟩
    rw [h9, g9, List.length_cons]
    omega
end Go.Proofs.YtbiglbclifbmhaaGreatDoor

namespace Go.Proofs.YtbiglbclifbmhaaGreatDoor
set_option linter.unusedVariables false
set_option linter.unusedSimpArgs false

def shN (d a : Nat) : Nat := (a + d) % 281474976710656
theorem shN_lt (d a : Nat) : shN d a < 281474976710656 := Nat.mod_lt _ (by decide)
theorem lenU_sh (d a b : Nat) (ha : a < 281474976710656) (hb : b < 281474976710656) : lenU (shN d a) (shN d b) = lenU a b := by unfold lenU shN; omega
theorem ageN_sh (d y i : Nat) (hi : i ≤ 1000) : ageN (shN d y) i = shN d (ageN y i) := by unfold ageN shN; omega
theorem diffI_sh (d a b : Nat) : diffI (shN d a) (shN d b) = diffI a b := by unfold diffI shN; omega
def shE (d : Nat) (e : Nat × Int) : Nat × Int := (shN d e.1, e.2)
structure Sh (d : Nat) (x y : FeS) : Prop where
  round : y.s.round = x.s.round
  now : y.s.now = x.s.now
  nums : y.s.nums = x.s.nums
  span : y.s.span = x.s.span
  lost : y.s.lost = x.s.lost
  eat : y.s.eat = x.s.eat
  fn : x.s.span = 0 ∨ (y.s.first = shN d x.s.first ∧ y.s.newest = shN d x.s.newest)
  en : x.l = [] ∨ y.s.en = shN d x.s.en
  l : y.l = x.l
theorem Sh.take {d : Nat} {x y : FeS} (h : Sh d x y) (hs : x.s.span ≠ 0) (h1 : x.s.first < 281474976710656) (h2 : x.s.en < 281474976710656) (e : Nat × Int) (he : e.1 < 281474976710656) : Sh d (x.take e) (y.take (shE d e)) := by
  obtain ⟨f1, f2⟩ := h.fn.resolve_left hs
  unfold FeS.take shE
  rw [h.l]
  by_cases hl : x.l = []
  · rw [if_pos hl, if_pos hl]
    exact ⟨h.round, h.now, h.nums, h.span, by simp only; rw [h.lost], rfl, .inr ⟨f1, f2⟩, .inr rfl, by simp only; rw [f1, lenU_sh d _ _ h1 he]⟩
  · rw [if_neg hl, if_neg hl]
    have f3 := h.en.resolve_left hl
    simp only
    have hq : y.s.eat + y.s.round = x.s.eat + x.s.round := by rw [h.eat, h.round]
    by_cases ht : x.s.eat + x.s.round < e.2
    · rw [if_pos ht, if_pos (by rw [hq]; exact ht)]
      exact ⟨h.round, h.now, h.nums, h.span, by simp only; rw [h.lost], rfl, .inr ⟨f1, f2⟩, .inr rfl, by simp only; rw [f3, lenU_sh d _ _ h2 he]⟩
    · rw [if_neg ht, if_neg (by rw [hq]; exact ht)]
      exact ⟨h.round, h.now, h.nums, h.span, by simp only; rw [h.lost], h.eat, .inr ⟨f1, f2⟩, .inr f3, rfl⟩
theorem Sh.takes {d : Nat} (es : List (Nat × Int)) : ∀ {x y : FeS} {K : Nat}, Sh d x y → x.s.span ≠ 0 → x.Ok K → (∀ e ∈ es, e.1 < 281474976710656 ∧ timeOk e.2) → Sh d (es.foldl FeS.take x) ((es.map (shE d)).foldl FeS.take y) := by
  induction es with
  | nil => intro x y K h _ _ _; exact h
  | cons e es ih =>
    intro x y K h hs ho he
    have h1 := he e (by simp)
    exact ih (h.take hs ho.first ho.en e h1.1) (by rw [(x.take_rest e).2.2.2.2.1]; exact hs) (ho.take e h1.1 h1.2) (fun e' h' => he e' (by simp [h']))
theorem LwS.upto_sh (d y : Nat) (L : List (Int × Int)) : ∀ k, k ≤ 1000 → (LwS.upto (shN d y) L k).f = (LwS.upto y L k).f ∧ (LwS.upto (shN d y) L k).t = (LwS.upto y L k).t ∧ (LwS.upto (shN d y) L k).nums = (LwS.upto y L k).nums ∧ (LwS.upto (shN d y) L k).ls = (LwS.upto y L k).ls.map (shE d)
  | 0, _ => ⟨rfl, rfl, rfl, rfl⟩
  | k + 1, hk => by
    obtain ⟨h1, h2, h3, h4⟩ := LwS.upto_sh d y L k (by omega)
    unfold LwS.upto LwS.step
    rw [h3, h1, h2, h4]
    split
    · exact ⟨rfl, rfl, rfl, rfl⟩
    · split
      · refine ⟨rfl, rfl, rfl, ?_⟩
        simp only [List.map_append, List.map_cons, List.map_nil]
        rw [ageN_sh d y k (by omega)]
        rfl
      · exact ⟨h1, h2, h3, h4⟩
theorem Sh.lose {d : Nat} {x y : FeS} {K : Nat} (h : Sh d x y) (hs : x.s.span ≠ 0) (ho : x.Ok K) (ht : timesOk x.s.nums) (sp : Nat) (hsp : sp ≤ 1000) : Sh d (x.lose sp) (y.lose sp) := by
  obtain ⟨f1, f2⟩ := h.fn.resolve_left hs
  obtain ⟨h1, h2, h3, h4⟩ := LwS.upto_sh d x.s.newest x.s.nums sp hsp
  have hu := LwS.upto_ok x.s.newest x.s.nums ht sp
  unfold FeS.lose
  rw [h.nums, f2, h3, h4, ← List.map_reverse]
  refine Sh.takes (K := K) _ ⟨h.round, h.now, rfl, h.span, h.lost, h.eat, .inr ⟨f1, f2⟩, h.en, h.l⟩ hs ⟨ho.first, ho.en, ho.eat, ho.round, ho.lost, ho.ll, ho.lv⟩ (fun e he => hu.2.2 e (List.mem_reverse.1 he))
/-- What always holds between two Puts. -/
structure FeS.Inv (x : FeS) (K : Nat) : Prop where
  ok : x.Ok (K * 250)
  new : x.s.newest < 281474976710656
  now : -9223372036854775808 ≤ x.s.now ∧ x.s.now ≤ 4611686018427387904
  times : timesOk x.s.nums
  len : x.s.nums.length = 250
  span : ∃ sp : Nat, x.s.span = (sp : Int) ∧ sp ≤ 250
  zero : x.s.span = 0 → x.s.nums = List.replicate 250 (0, 0) ∧ x.l = []
  bytes : x.s.bytes ≤ K * 65535
theorem FeS.Inv.fresh : (FeS.mk (FdS.fresh 1000) []).Inv 0 :=
  ⟨⟨by decide, by decide, ⟨by decide, by decide⟩, ⟨by decide, by decide⟩, ⟨by decide, by decide⟩, by simp, fun v hv => by cases hv⟩, by decide, ⟨by decide, by decide⟩, fun p hp => by rw [(List.mem_replicate.1 hp).2]; exact ⟨by decide, by decide⟩, List.length_replicate, ⟨0, rfl, by decide⟩, fun _ => ⟨rfl, rfl⟩, by decide⟩
theorem Sh.fresh (d : Nat) : Sh d ⟨FdS.fresh 1000, []⟩ ⟨FdS.fresh 1000, []⟩ := ⟨rfl, rfl, rfl, rfl, rfl, rfl, .inl rfl, .inl rfl, rfl⟩
/-- The state behind the first one is there. -/
theorem at1_span (x : FeS) (N : Int) (n : Nat) {K : Nat} (h : x.Inv K) : ∃ sp : Nat, (x.at1 N n).span = (sp : Int) ∧ 1 ≤ sp ∧ sp ≤ 250 := by
  obtain ⟨sp, h1, h2⟩ := h.span
  unfold FeS.at1
  split
  · exact ⟨1, rfl, by decide, by decide⟩
  · exact ⟨sp, h1, by omega, h2⟩
theorem led_span (s : FdS) (n sp : Nat) (h : s.span = (sp : Int)) (h1 : 1 ≤ sp) (h2 : sp ≤ 250) : ∃ sq : Nat, (s.led n).span = (sq : Int) ∧ 1 ≤ sq ∧ sq ≤ 250 := by
  unfold FdS.led
  split
  · refine ⟨_, rfl, ?_, ?_⟩
    · rw [h]; show 1 ≤ min ((sp : Int).toNat + _) 250; rw [Int.toNat_natCast]; omega
    · exact Nat.min_le_right _ _
  · exact ⟨sp, h, h1, h2⟩
theorem at1_rest (x : FeS) (N : Int) (n : Nat) : (x.at1 N n).nums = x.s.nums ∧ (x.at1 N n).lost = x.s.lost ∧ (x.at1 N n).eat = x.s.eat ∧ (x.at1 N n).en = x.s.en ∧ (x.at1 N n).bytes = x.s.bytes ∧ (x.at1 N n).round = x.s.round ∧ (x.at1 N n).now = N := by
  unfold FeS.at1
  split <;> exact ⟨rfl, rfl, rfl, rfl, rfl, rfl, rfl⟩
theorem led_rest (s : FdS) (n : Nat) : (s.led n).lost = s.lost ∧ (s.led n).eat = s.eat ∧ (s.led n).en = s.en ∧ (s.led n).bytes = s.bytes ∧ (s.led n).round = s.round ∧ (s.led n).now = s.now ∧ (s.led n).first = s.first := by
  unfold FdS.led
  split <;> exact ⟨rfl, rfl, rfl, rfl, rfl, rfl, rfl⟩
theorem led_times (s : FdS) (n : Nat) (h : timesOk s.nums) : timesOk (s.led n).nums := by
  unfold FdS.led
  split
  · intro p hp
    rcases List.mem_append.1 hp with h1 | h1
    · rw [(List.mem_replicate.1 h1).2]; exact ⟨by decide, by decide⟩
    · exact h p (List.mem_of_mem_take h1)
  · exact h
theorem led_len (s : FdS) (n : Nat) (h : s.nums.length = 250) : (s.led n).nums.length = 250 := by
  unfold FdS.led
  split
  · show (List.replicate _ _ ++ s.nums.take _).length = 250
    rw [List.length_append, List.length_replicate, List.length_take, h]
    omega
  · exact h
theorem led_new (s : FdS) (n : Nat) (h : s.newest < 281474976710656) : (s.led n).newest < 281474976710656 := by
  unfold FdS.led
  split
  · show (stepI s.newest (-(diffI s.newest n))).toNat < _
    unfold stepI
    omega
  · exact h
theorem at1_first (x : FeS) (N : Int) (n : Nat) (hn : n < 281474976710656) (h : x.s.first < 281474976710656) (h2 : x.s.newest < 281474976710656) : (x.at1 N n).first < 281474976710656 ∧ (x.at1 N n).newest < 281474976710656 := by
  unfold FeS.at1
  split
  · exact ⟨hn, hn⟩
  · exact ⟨h, h2⟩
/-- Behind a Put that counted, losses aside. -/
theorem put_ok {x : FeS} {K : Nat} (h : x.Inv K) (N : Int) (n sz : Nat) (hn : n < 281474976710656) : FeS.Ok ⟨((x.at1 N n).led n).putN N (ageOf (x.at1 N n) n) sz, x.l⟩ (K * 250) := by
  obtain ⟨a1, a2, a3, a4, a5, a6, a7⟩ := at1_rest x N n
  obtain ⟨b1, b2, b3, b4, b5, b6, b7⟩ := led_rest (x.at1 N n) n
  obtain ⟨c1, c2⟩ := at1_first x N n hn h.ok.first h.new
  refine ⟨?_, ?_, ?_, ?_, ?_, h.ok.ll, h.ok.lv⟩
  · show ((x.at1 N n).led n).first < _; rw [b7]; exact c1
  · show ((x.at1 N n).led n).en < _; rw [b3, a4]; exact h.ok.en
  · show timeOk ((x.at1 N n).led n).eat; rw [b2, a3]; exact h.ok.eat
  · show 0 ≤ ((x.at1 N n).led n).round ∧ ((x.at1 N n).led n).round ≤ _; rw [b5, a6]; exact h.ok.round
  · show 0 ≤ ((x.at1 N n).led n).lost ∧ ((x.at1 N n).led n).lost ≤ _; rw [b1, a2]; exact h.ok.lost
theorem put_times {x : FeS} {K : Nat} (h : x.Inv K) (N : Int) (n a sz : Nat) (hN : timeOk N) : timesOk (((x.at1 N n).led n).putN N a sz).nums := by
  refine timesOk.set (led_times _ n ?_) a (1, N) hN
  rw [(at1_rest x N n).1]
  exact h.times
theorem FeS.Inv.put {x : FeS} {K : Nat} (h : x.Inv K) (N : Int) (n sz : Nat) (hn : n < 281474976710656) (hN : timeOk N) (hz : sz ≤ 65535) : (x.put N n sz).2.Inv (K + 1) := by
  obtain ⟨a1, a2, a3, a4, a5, a6, a7⟩ := at1_rest x N n
  obtain ⟨b1, b2, b3, b4, b5, b6, b7⟩ := led_rest (x.at1 N n) n
  obtain ⟨c1, c2⟩ := at1_first x N n hn h.ok.first h.new
  obtain ⟨sp, s1, s2, s3⟩ := at1_span x N n h
  obtain ⟨sq, t1, t2, t3⟩ := led_span _ n sp s1 s2 s3
  have hlen : ((x.at1 N n).led n).nums.length = 250 := led_len _ n (by rw [a1]; exact h.len)
  have hok := put_ok h N n sz hn
  have hti := put_times h N n (ageOf (x.at1 N n) n) sz hN
  have hby := h.bytes
  unfold FeS.put
  split
  · refine ⟨⟨hok.first, hok.en, hok.eat, hok.round, ⟨hok.lost.1, ?_⟩, hok.ll, hok.lv⟩, led_new _ n c2, ?_, led_times _ n (by rw [a1]; exact h.times), hlen, ⟨sq, t1, t3⟩, fun e => ?_, ?_⟩
    · exact Int.le_trans (show ((x.at1 N n).led n).lost ≤ ((K * 250 : Nat) : Int) from hok.lost.2) (Int.ofNat_le.2 (Nat.mul_le_mul_right _ (Nat.le_succ K)))
    · show -9223372036854775808 ≤ ((x.at1 N n).led n).now ∧ ((x.at1 N n).led n).now ≤ _
      rw [b6, a7]
      exact ⟨by have := hN.1; omega, hN.2⟩
    · exfalso
      have e2 : ((x.at1 N n).led n).span = 0 := e
      omega
    · show ((x.at1 N n).led n).bytes ≤ _
      rw [b4, a5]
      exact Nat.le_trans hby (Nat.mul_le_mul_right _ (Nat.le_succ K))
  · have hu := LwS.upto_ok ((x.at1 N n).led n).newest (((x.at1 N n).led n).putN N (ageOf (x.at1 N n) n) sz).nums hti ((x.at1 N n).led n).span.toNat
    have hf := LwS.upto_few ((x.at1 N n).led n).newest (((x.at1 N n).led n).putN N (ageOf (x.at1 N n) n) sz).nums ((x.at1 N n).led n).span.toNat
    have hul := LwS.upto_len ((x.at1 N n).led n).newest (((x.at1 N n).led n).putN N (ageOf (x.at1 N n) n) sz).nums ((x.at1 N n).led n).span.toNat
    have hl2 : (((x.at1 N n).led n).putN N (ageOf (x.at1 N n) n) sz).nums.length = 250 := by
      show (((x.at1 N n).led n).nums.set _ _).length = 250
      rw [List.length_set]; exact hlen
    unfold FeS.lose
    simp only
    generalize hU : LwS.upto (((x.at1 N n).led n).putN N (ageOf (x.at1 N n) n) sz).newest (((x.at1 N n).led n).putN N (ageOf (x.at1 N n) n) sz).nums ((x.at1 N n).led n).span.toNat = U
    rw [show LwS.upto ((x.at1 N n).led n).newest (((x.at1 N n).led n).putN N (ageOf (x.at1 N n) n) sz).nums ((x.at1 N n).led n).span.toNat = U from hU] at hu hf hul
    have hr := FeS.takes_rest U.ls.reverse ⟨{ ((x.at1 N n).led n).putN N (ageOf (x.at1 N n) n) sz with nums := U.nums }, x.l⟩
    have hk := FeS.Ok.takes (x := ⟨{ ((x.at1 N n).led n).putN N (ageOf (x.at1 N n) n) sz with nums := U.nums }, x.l⟩) (K := K * 250) ⟨hok.first, hok.en, hok.eat, hok.round, hok.lost, hok.ll, hok.lv⟩ U.ls.reverse (fun e he => hu.2.2 e (List.mem_reverse.1 he))
    obtain ⟨r1, r2, r3, r4, r5, r6, r7, r8, r9⟩ := hr
    rw [List.length_reverse] at hk
    have hsp : ((x.at1 N n).led n).span.toNat ≤ 250 := by omega
    refine ⟨⟨hk.first, hk.en, hk.eat, hk.round, ⟨hk.lost.1, ?_⟩, hk.ll, hk.lv⟩, ?_, ?_, ?_, ?_, ?_, fun e => ?_, ?_⟩
    · exact Int.le_trans hk.lost.2 (by omega)
    · rw [r3]; exact led_new _ n c2
    · rw [r1]; exact ⟨by have := hN.1; show -9223372036854775808 ≤ N; omega, hN.2⟩
    · rw [r4]; exact hu.1
    · rw [r4]; show U.nums.length = 250; rw [hul]; exact hl2
    · rw [r5]; exact ⟨sq, t1, t3⟩
    · exfalso
      rw [r5] at e
      have e2 : ((x.at1 N n).led n).span = 0 := e
      omega
    · rw [r6]
      show ((x.at1 N n).led n).bytes + sz ≤ _
      rw [b4, a5]
      omega
theorem Sh.led {d : Nat} {s t : FdS} (n : Nat) (h1 : s.newest < 281474976710656) (hf : t.newest = shN d s.newest) (hsp : t.span = s.span) (hn : t.nums = s.nums) :
    (t.led (shN d n)).newest = shN d (s.led n).newest ∧ (t.led (shN d n)).nums = (s.led n).nums ∧ (t.led (shN d n)).span = (s.led n).span := by
  unfold FdS.led
  rw [hf, diffI_sh, hsp]
  split
  · refine ⟨?_, ?_, rfl⟩
    · show (stepI (shN d s.newest : Nat) _).toNat = shN d (stepI s.newest _).toNat
      unfold stepI shN
      omega
    · show List.replicate _ _ ++ t.nums.take _ = List.replicate _ _ ++ s.nums.take _
      rw [hn]
  · exact ⟨hf, hn, hsp⟩
theorem Sh.put {d : Nat} {x y : FeS} {K : Nat} (h : Sh d x y) (hx : x.Inv K) (N : Int) (n sz : Nat) (hn : n < 281474976710656) (hN : timeOk N) :
    (y.put N (shN d n) sz).1 = (x.put N n sz).1 ∧ Sh d (x.put N n sz).2 (y.put N (shN d n) sz).2 := by
  -- the first one
  obtain ⟨sp, s1, s2, s3⟩ := at1_span x N n hx
  obtain ⟨c1, c2⟩ := at1_first x N n hn hx.ok.first hx.new
  obtain ⟨a1, a2, a3, a4, a5, a6, a7⟩ := at1_rest x N n
  obtain ⟨z1, z2, z3, z4, z5, z6, z7⟩ := at1_rest y N (shN d n)
  have e1 : (y.at1 N (shN d n)).first = shN d (x.at1 N n).first ∧ (y.at1 N (shN d n)).newest = shN d (x.at1 N n).newest ∧ (y.at1 N (shN d n)).span = (x.at1 N n).span := by
    unfold FeS.at1
    rw [h.span]
    split
    · exact ⟨rfl, rfl, rfl⟩
    · rename_i h0
      obtain ⟨f1, f2⟩ := h.fn.resolve_left h0
      exact ⟨f1, f2, h.span⟩
  obtain ⟨g1, g2, g3⟩ := Sh.led n c2 e1.2.1 e1.2.2 (by rw [z1, a1, h.nums])
  obtain ⟨b1, b2, b3, b4, b5, b6, b7⟩ := led_rest (x.at1 N n) n
  obtain ⟨y1, y2, y3, y4, y5, y6, y7⟩ := led_rest (y.at1 N (shN d n)) (shN d n)
  obtain ⟨sq, t1, t2, t3⟩ := led_span _ n sp s1 s2 s3
  have ea : ageOf (y.at1 N (shN d n)) (shN d n) = ageOf (x.at1 N n) n := by unfold ageOf; rw [e1.2.1, diffI_sh]
  have hen : x.l = [] ∨ ((y.at1 N (shN d n)).led (shN d n)).en = shN d ((x.at1 N n).led n).en := by
    rw [y3, b3, z4, a4]; exact h.en
  have hlo : ((y.at1 N (shN d n)).led (shN d n)).lost = ((x.at1 N n).led n).lost := by rw [y1, b1, z2, a2]; exact h.lost
  have hea : ((y.at1 N (shN d n)).led (shN d n)).eat = ((x.at1 N n).led n).eat := by rw [y2, b2, z3, a3]; exact h.eat
  have hro : ((y.at1 N (shN d n)).led (shN d n)).round = ((x.at1 N n).led n).round := by rw [y5, b5, z6, a6]; exact h.round
  have hno : ((y.at1 N (shN d n)).led (shN d n)).now = ((x.at1 N n).led n).now := by rw [y6, b6, z7, a7]
  have hfi : ((y.at1 N (shN d n)).led (shN d n)).first = shN d ((x.at1 N n).led n).first := by rw [y7, b7]; exact e1.1
  have hok := put_ok hx N n sz hn
  have hti := put_times hx N n (ageOf (x.at1 N n) n) sz hN
  unfold FeS.put
  rw [ea, g2, g3, h.l]
  split
  · exact ⟨rfl, ⟨hro, hno, g2, g3, hlo, hea, .inr ⟨hfi, g1⟩, hen, rfl⟩⟩
  · refine ⟨rfl, Sh.lose (K := K * 250) ?_ ?_ hok hti _ (by omega)⟩
    · refine ⟨hro, rfl, ?_, g3, hlo, hea, .inr ⟨hfi, g1⟩, hen, rfl⟩
      show (((y.at1 N (shN d n)).led (shN d n)).nums.set _ _) = (((x.at1 N n).led n).nums.set _ _)
      rw [g2]
    · show ((x.at1 N n).led n).span ≠ 0
      omega
end Go.Proofs.YtbiglbclifbmhaaGreatDoor

namespace Go.Proofs.YtbiglbclifbmhaaGreatDoor
open Go.ChangeShapes Go.WideShapes Go.ChangeAt Go.RowKit
set_option linter.unusedVariables false
set_option linter.unusedSimpArgs false

def uV (n : Nat) : Value := .int .u64 n
theorem infoU64f : (Tryz.prog.info? 22).map (fun i => (i.zero, i.size, i.bytes)) = some (some (.int .u64 0), 1, 8) := by kernel_rfl
/-- A block of uint64s: l at its head, as long as its capacity. -/
structure RowU (l : List Nat) (b c : Nat) (w : World) : Prop where
  blk : ∃ T : List Value, BlkIs (l.map uV ++ T).toArray 22 b w ∧ l.length + T.length = c
  cap2 : c ≤ 9223372036854775807
theorem RowU.kept {l : List Nat} {b c : Nat} {S : List Nat} {w w' : World} (h : RowU l b c w) (k : Kept S w w') (hn : b ∉ S) : RowU l b c w' := by
  obtain ⟨T, h1, h2⟩ := h.blk
  exact ⟨⟨T, h1.kept k hn, h2⟩, h.cap2⟩
theorem RowU.cut {l : List Nat} {b c : Nat} {w : World} (h : RowU l b c w) (m : Nat) : RowU (l.take m) b c w := by
  obtain ⟨T, h1, h2⟩ := h.blk
  refine ⟨⟨(l.drop m).map uV ++ T, ?_, ?_⟩, h.cap2⟩
  · rw [← List.append_assoc, ← List.map_append, List.take_append_drop]; exact h1
  · rw [List.length_append, List.length_map, List.length_take, List.length_drop]; omega
theorem shapeU {cs : Array Value} {T b : Nat} {w : World} (h : BlkIs cs T b w) : w.shape? b = some (T, cs.size) := by
  unfold World.shape?
  rw [show w.heap[b]? = _ from h]
theorem sizeU (w : World) : (Go.sizeOf 22).run Tryz.prog w = .ok 1 w := by kernel_rfl
set_option maxHeartbeats 4000000 in
set_option maxRecDepth 1000000 in
theorem insU_room (l : List Nat) (hl : 1 ≤ l.length) (hl2 : l.length ≤ 1000) (x b c v : Nat) (hroom : l.length + 1 ≤ c) (w : World) (h : RowU l b c w) (hv : BlkIs #[uV x] 22 v w) (hne : v ≠ b) :
    Calls Tryz.prog 142 #[.slice (some ⟨b, 0, none⟩) l.length c, .int .i64 0, .slice (some ⟨v, 0, none⟩) 1 1] w fun e w' => e = .returned (.slice (some ⟨b, 0, none⟩) (l.length + 1) c) ∧ RowU (x :: l) b c w' ∧ Kept [b] w w' := by
  obtain ⟨N, hN⟩ : ∃ N, l.length = N := ⟨_, rfl⟩
  obtain ⟨T, hb, hc⟩ := h.blk
  have hcap2 := h.cap2
  obtain ⟨t0, T', rfl⟩ : ∃ t0 T', T = t0 :: T' := by
    rcases T with _ | ⟨t0, T'⟩
    · simp at hc; omega
    · exact ⟨t0, T', rfl⟩
  have hc' : N + (T'.length + 1) = c := by rw [← hN]; simpa using hc
  obtain ⟨ls, hls⟩ : ∃ ls, l.map uV = ls := ⟨_, rfl⟩
  have hlen : ls.length = N := by rw [← hls, List.length_map, hN]
  rw [hls] at hb
  obtain ⟨y0, ys, hys⟩ : ∃ y0 ys, ls = y0 :: ys := by
    rcases hq : ls with _ | ⟨y0, ys⟩
    · rw [hq] at hlen; simp at hlen; omega
    · exact ⟨y0, ys, rfl⟩
  have hyl : ys.length + 1 = N := by rw [← hlen, hys]; rfl
  have hsplit : ls ++ t0 :: T' = [y0] ++ ((ys ++ [t0]) ++ T') := by rw [hys]; simp
  have hcell : ∀ j, j < c → (w.cell? ⟨b, j, none⟩).isSome = true := fun j hj => by
    rw [hb.cell j, List.getElem?_toArray, List.getElem?_eq_getElem (by rw [List.length_append, hlen]; simp at hc ⊢; omega)]
    rfl
  have hget : ∀ j u, ls[j]? = some u → w.cell? ⟨b, j, none⟩ = some u := fun j u hu => by
    rw [hb.cell j, List.getElem?_toArray, List.getElem?_append_left (List.getElem?_eq_some_iff.1 hu).1]
    exact hu
  have h1c : ∀ u ∈ ls, u.oneCell' = true := fun u hu => by
    rw [← hls] at hu
    obtain ⟨z, _, rfl⟩ := List.mem_map.1 hu
    rfl
  have hfr : ∀ j, w.frozen? ⟨b, j, none⟩ = false := fun j => hb.free j
  -- the others one further on
  have hb' := hb
  rw [hsplit] at hb'
  have hb1 : BlkIs ([y0] ++ (ls ++ T')).toArray 22 b (w.drew.setCells b 1 ls) := BlkIs.seg ls (ys ++ [t0]) [y0] T' w.drew (by rw [List.length_append, hlen, List.length_singleton]; exact hyl) (hb'.below (bel_drewN w 1))
  have k1 : Kept [b] w (w.drew.setCells b 1 ls) := kept_setCellsF [b] b (.inl (by simp)) ls 1 _ ((Kept.refl [b] w).drewN 1)
  obtain ⟨W1, hW1⟩ : ∃ W1, W1 = w.drew.setCells b 1 ls := ⟨_, rfl⟩
  rw [← hW1] at hb1 k1
  have hv1 : BlkIs #[uV x] 22 v W1 := hv.kept k1 (by simpa using hne)
  -- the new one at the head
  have hb2 : BlkIs ([] ++ ([uV x] ++ (ls ++ T'))).toArray 22 b (W1.setCells b 0 [uV x]) := BlkIs.seg [uV x] [y0] [] (ls ++ T') W1 rfl hb1
  have k2 : Kept [b] w (W1.setCells b 0 [uV x]) := kept_setCellsF [b] b (.inl (by simp)) [uV x] 0 _ k1
  have hb1s : ∀ j, j < c → (W1.cell? ⟨b, j, none⟩).isSome = true := fun j hj => by
    rw [hb1.cell j, List.getElem?_toArray, List.getElem?_eq_getElem (by rw [List.length_append, List.length_append, hlen, List.length_singleton]; omega)]
    rfl
  have hsz : (Tryz.prog.info? 22).map (·.size) = some 1 := by kernel_rfl
  have hcp1 : ∀ ty dc sc, (Builtin.copy_ #[28, 28] ty #[.slice (some ⟨b, 1, none⟩) N dc, .slice (some ⟨b, 0, none⟩) (N + 1) sc]).run Tryz.prog w.drew = .ok (goInt ls.length) W1 := fun ty dc sc => by
    rw [hW1]
    exact run_copy_cells w.drew _ _ ty 22 b 1 N dc ⟨b, 0, none⟩ (N + 1) sc ls Tryz.underlying28 hsz (by rw [hlen]; simp only [Nat.min_def]; split <;> omega)
      (fun j u hj => by rw [Addr.add_lit, Nat.zero_add]; exact hget j u hj)
      (fun j hj => by rw [hlen] at hj; exact hcell (1 + j) (by omega)) (fun j hj => hfr _) h1c
  have hcp2 : ∀ ty dc, (Builtin.copy_ #[28, 28] ty #[.slice (some ⟨b, 0, none⟩) (N + 1) dc, .slice (some ⟨v, 0, none⟩) 1 1]).run Tryz.prog W1 = .ok (goInt ([uV x] : List Value).length) (W1.setCells b 0 [uV x]) := fun ty dc =>
    run_copy_cells W1 _ _ ty 22 b 0 (N + 1) dc ⟨v, 0, none⟩ 1 1 [uV x] Tryz.underlying28 hsz (by simp)
      (fun j u hj => by
        rw [Addr.add_lit, Nat.zero_add, hv1.cell j]
        simpa using hj)
      (fun j hj => by
        have hj0 : j = 0 := by simpa using hj
        subst hj0
        exact hb1s 0 (by omega)) (fun j hj => hb1.free _) (fun u hu => by simp at hu; subst hu; rfl)
  have hov : ∀ lb cb, (callFunc 175 #[.slice (some ⟨v, 0, none⟩) 1 1, .slice (some ⟨b, 1, none⟩) lb cb]).run Tryz.prog w = .ok (.value (.bool false)) w := fun lb cb => by
    rw [run_callFunc_extern Tryz.func175 (by kernel_rfl) (by kernel_rfl) (by kernel_rfl) (e := Extern.SlicesOverlaps.overlaps #[28, 28] #[4]) (by kernel_rfl),
      Lib.run_overlaps_apart w 28 4 22 Tryz.underlying28 1 sizeU ⟨v, 0, none⟩ ⟨b, 1, none⟩ 1 1 lb cb hne 22 22 1 c (shapeU hv) (by have h9 := shapeU hb; rw [h9]; simp at hc ⊢; rw [hlen]; omega) (by omega) (hv.free _) (hv.free _)]
    rfl
  have HB2 := Lib.hid hb2
  have HK2 := Lib.hid k2
  have mixed : Tryz.prog.follows .mixedOrders = true := by kernel_rfl
  rw [hN] at hroom ⊢
  have hpost : RowU (x :: l) b c (W1.setCells b 0 [uV x]) := ⟨⟨T', by rw [List.map_cons, hls]; exact hb2, by rw [List.length_cons] at hc ⊢; omega⟩, hcap2⟩
  have HPO := Lib.hid hpost
  have q1 : ¬ c = 1 := by omega
  have q2 : (1 : Int) ≤ (N : Int) + 1 := by omega
  have q3 : ¬ (0 : Int) = (N : Int) := by omega
  have q4 : (N : Int) + 1 ≤ (c : Int) := by omega
  have q5 : ¬ (c : Int) < (N : Int) + 1 := by omega
  have q6 : ¬ c = 0 := by omega
  have q7 : N + 1 - 1 = N := by omega
  have q8 : IntKind.i64.wrap 1 = 1 := by decide
  have q9 : (0 : Int) ≤ (N : Int) + 1 := by omega
  have hlen2 : goInt ls.length = goInt ls.length := rfl
  clear h hb hb' hb1 hb2 k1 k2 hv hv1 hcell hget h1c hfr hb1s hpost hsplit hyl hys hlen hls hc hN hlen2 hW1
  go_enter Tryz.func142, Tryz.ntmps142
  go_wp2_with (simp only [hov])
  go_region_law_o (refine step_copy_runI rfl _ _ 28 28 rfl (.slice (some ⟨b, 1, none⟩) N (c - 1)) (.slice (some ⟨b, 0, none⟩) (N + 1) c) (by simp [Act.eval, Act.put]) (by simp [Act.eval, Act.put]) (hcp1 _ _ _) ?_)
  go_wp2
  go_ret
  exact ⟨rfl, HPO.out, HK2.out⟩
set_option maxHeartbeats 4000000 in
set_option maxRecDepth 1000000 in
theorem insU_grow (l : List Nat) (hl : 1 ≤ l.length) (hl2 : l.length ≤ 1000) (x b c v : Nat) (hroom : c < l.length + 1) (w : World) (h : RowU l b c w) (hv : BlkIs #[uV x] 22 v w) :
    Calls Tryz.prog 142 #[.slice (some ⟨b, 0, none⟩) l.length c, .int .i64 0, .slice (some ⟨v, 0, none⟩) 1 1] w fun e w' => ∃ G, e = .returned (.slice (some ⟨w.heap.size, 0, none⟩) (l.length + 1) G) ∧ RowU (x :: l) w.heap.size G w' ∧ Kept [] w w' := by
  obtain ⟨N, hN⟩ : ∃ N, l.length = N := ⟨_, rfl⟩
  obtain ⟨B, hB⟩ : ∃ B, w.heap.size = B := ⟨_, rfl⟩
  obtain ⟨T, hb, hc⟩ := h.blk
  have hcap2 := h.cap2
  obtain ⟨ls, hls⟩ : ∃ ls, l.map uV = ls := ⟨_, rfl⟩
  have hlen : ls.length = N := by rw [← hls, List.length_map, hN]
  rw [hls] at hb
  have hbw : b < B := by rw [← hB]; exact hb.lt
  have hvw : v < B := by rw [← hB]; exact hv.lt
  have hget : ∀ j u, ls[j]? = some u → w.cell? ⟨b, j, none⟩ = some u := fun j u hu => by
    rw [hb.cell j, List.getElem?_toArray, List.getElem?_append_left (List.getElem?_eq_some_iff.1 hu).1]
    exact hu
  have h1c : ∀ u ∈ ls, u.oneCell' = true := fun u hu => by
    rw [← hls] at hu
    obtain ⟨z, _, rfl⟩ := List.mem_map.1 hu
    rfl
  obtain ⟨i0, hi0, hz0, hzs, hzb⟩ := info_parts infoU64f
  have hsz : (Tryz.prog.info? 22).map (·.size) = some 1 := by kernel_rfl
  have hold : (Builtin.firstCells i0.size 0 (.slice (some ⟨b, 0, none⟩) 0 c)).run Tryz.prog w.drew = .ok (([] : List Value)).toArray w.drew := by
    rw [hzs]
    exact run_firstCells_some w.drew 1 0 ⟨b, 0, none⟩ 0 c [] rfl (fun j u hj => by cases hj)
  have hrz : ∀ ty, (Builtin.append_ #[28, 3] ty #[.slice (some ⟨b, 0, none⟩) 0 c, .int .i64 ((N : Int) + 1)]).run Tryz.prog w =
      .ok (.slice (some ⟨B, 0, none⟩) (N + 1) (grownCap w (N + 1) c 22)) (w.drew.alloc (.cells (([] : List Value).toArray ++ Builtin.zeroCells (Value.int .u64 0).cells (N + 1) ++ Builtin.zeroCells (Value.int .u64 0).cells (grownCap w (N + 1) c 22 - (N + 1))) 22)) := fun ty => by
    have h9 := Lib.run_append_grow_zeros w 28 3 ty 22 i0 _ .i64 .i64 Tryz.underlying28 Tryz.underlying3 hi0 hz0 (some ⟨b, 0, none⟩) 0 c [] hold (N + 1) (by omega) (by omega) (by omega) (by omega) (by rw [hzb]; omega) (by rw [hzb, Nat.zero_add]; exact growslice_fits (by omega) (by omega))
    rw [Nat.zero_add, hB] at h9
    exact h9
  have hGn : N + 1 ≤ grownCap w (N + 1) c 22 := grownCap_ge w _ _ _
  have hG63 : grownCap w (N + 1) c 22 ≤ 9223372036854775807 := grownCap_le_maxLen w (N + 1) c 22 (by unfold maxLen; omega)
  generalize grownCap w (N + 1) c 22 = G at *
  obtain ⟨ROW, hROW⟩ : ∃ ROW : Array Value, ROW = ([] : List Value).toArray ++ Builtin.zeroCells (Value.int .u64 0).cells (N + 1) ++ Builtin.zeroCells (Value.int .u64 0).cells (G - (N + 1)) := ⟨_, rfl⟩
  have hRs : ROW.size = G := by
    rw [hROW]
    simp [Builtin.zeroCells, Value.cells]
    omega
  rw [← hROW] at hrz
  obtain ⟨r0, mid, T', hR, hml⟩ : ∃ r0 mid T', ROW = ([r0] ++ (mid ++ T')).toArray ∧ mid.length = N := by
    obtain ⟨R, rfl⟩ : ∃ R, ROW = R.toArray := ⟨ROW.toList, by simp⟩
    rcases R with _ | ⟨r0, R'⟩
    · simp at hRs; omega
    · refine ⟨r0, R'.take N, R'.drop N, by simp, ?_⟩
      simp at hRs
      rw [List.length_take]
      omega
  have hTl : N + 1 + T'.length = G := by rw [← hRs, hR]; simp; omega
  obtain ⟨W1, hW1⟩ : ∃ W1, W1 = w.drew.alloc (.cells ROW 22) := ⟨_, rfl⟩
  rw [← hW1] at hrz
  have k1 : Kept [] w W1 := by rw [hW1]; exact ((Kept.refl [] w).drewN 1).alloc _
  have b1 : BlkIs ([] ++ ([r0] ++ (mid ++ T'))).toArray 22 B W1 := by
    rw [hW1, List.nil_append, ← hR]
    have := BlkIs.new ROW 22 w.drew
    rw [show w.drew.heap.size = B from hB] at this
    exact this
  have hv1 : BlkIs #[uV x] 22 v W1 := hv.kept k1 (by simp)
  have hcpA : ∀ (W : World), (∀ y, W.cell? y = W1.cell? y) → (∀ y, W.frozen? y = W1.frozen? y) → ∀ ty dc, (Builtin.copy_ #[28, 28] ty #[.slice (some ⟨B, 0, none⟩) (N + 1) dc, .slice (some ⟨v, 0, none⟩) 1 1]).run Tryz.prog W = .ok (goInt ([uV x] : List Value).length) (W.setCells B 0 [uV x]) := fun W hWc hWf ty dc =>
    run_copy_cells W _ _ ty 22 B 0 (N + 1) dc ⟨v, 0, none⟩ 1 1 [uV x] Tryz.underlying28 hsz (by simp)
      (fun j u hj => by
        rw [Addr.add_lit, Nat.zero_add, hWc, hv1.cell j]
        simpa using hj)
      (fun j hj => by
        have hj0 : j = 0 := by simpa using hj
        subst hj0
        rw [hWc, b1.cell]
        rfl) (fun j hj => by rw [hWf]; exact b1.free _) (fun u hu => by simp at hu; subst hu; rfl)
  have b2 : BlkIs ([] ++ ([uV x] ++ (mid ++ T'))).toArray 22 B (W1.setCells B 0 [uV x]) := BlkIs.seg [uV x] [r0] [] (mid ++ T') W1 rfl b1
  have k2 : Kept [] w (W1.setCells B 0 [uV x]) := kept_setCellsF [] B (.inr (by rw [hB]; exact Nat.le_refl _)) [uV x] 0 _ k1
  obtain ⟨W2, hW2⟩ : ∃ W2, W2 = W1.setCells B 0 [uV x] := ⟨_, rfl⟩
  rw [← hW2] at b2 k2
  have hcp1 := hcpA W1 (fun _ => rfl) (fun _ => rfl)
  rw [← hW2] at hcp1
  have hb2 : BlkIs (ls ++ T).toArray 22 b W2 := hb.kept k2 (by simp)
  have hcp2 : ∀ ty dc sc, (Builtin.copy_ #[28, 28] ty #[.slice (some ⟨B, 1, none⟩) N dc, .slice (some ⟨b, 0, none⟩) N sc]).run Tryz.prog W2.drew = .ok (goInt ls.length) (W2.drew.setCells B 1 ls) := fun ty dc sc =>
    run_copy_cells W2.drew _ _ ty 22 B 1 N dc ⟨b, 0, none⟩ N sc ls Tryz.underlying28 hsz (by rw [hlen]; simp only [Nat.min_def]; split <;> omega)
      (fun j u hj => by
        rw [Addr.add_lit, Nat.zero_add]
        show W2.cell? _ = some u
        rw [hb2.cell j, List.getElem?_toArray, List.getElem?_append_left (List.getElem?_eq_some_iff.1 hj).1]
        exact hj)
      (fun j hj => by
        show (W2.cell? _).isSome = true
        rw [b2.cell, List.getElem?_toArray, List.getElem?_eq_getElem (by rw [hlen] at hj; simp [hml]; omega)]
        rfl) (fun j hj => b2.free _) h1c
  have b3 : BlkIs ([uV x] ++ (ls ++ T')).toArray 22 B (W2.drew.setCells B 1 ls) := BlkIs.seg ls mid [uV x] T' W2.drew (by rw [hml, hlen]) (b2.below (bel_drewN W2 1))
  have k3 : Kept [] w (W2.drew.setCells B 1 ls) := kept_setCellsF [] B (.inr (by rw [hB]; exact Nat.le_refl _)) ls 1 _ (k2.drewN 1)
  have HPO : Hid (RowU (x :: l) B G (W2.drew.setCells B 1 ls)) := Lib.hid ⟨⟨T', by rw [List.map_cons, hls]; exact b3, by rw [List.length_cons, hN]; omega⟩, hG63⟩
  have HK3 := Lib.hid k3
  obtain ⟨W3, hW3⟩ : ∃ W3, W3 = W2.drew.setCells B 1 ls := ⟨_, rfl⟩
  rw [← hW3] at hcp2 HPO HK3
  have mixed : Tryz.prog.follows .mixedOrders = true := by kernel_rfl
  rw [hN] at hroom ⊢
  have hcN : N ≤ c := by have := hc; omega
  have hN1000 : N ≤ 1000 := by omega
  have hN1 : 1 ≤ N := by omega
  have q1 : (c : Int) < (N : Int) + 1 := by omega
  have q2 : (1 : Int) ≤ (N : Int) + 1 := by omega
  have q3 : ¬ (0 : Int) = (N : Int) := by omega
  have q5 : (0 : Int) ≤ (N : Int) := by omega
  have q6 : ¬ c = 0 := by omega
  have q7 : N + 1 - 1 = N := by omega
  have q8 : IntKind.i64.wrap 1 = 1 := by decide
  have q9 : (0 : Int) ≤ (N : Int) + 1 := by omega
  have q10 : ¬ G = 1 := by omega
  have q11 : ¬ G = 0 := by omega
  have HBz := Lib.hid hB
  clear h hb hv hget h1c hold hi0 hz0 hzs hzb hGn hG63 hROW hRs hR hml hTl hW1 k1 b1 hv1 hcpA b2 k2 hW2 hb2 b3 k3 hW3 hlen hls hc hN hB
  go_enter Tryz.func142, Tryz.ntmps142
  go_wp2_with (first
    | (at_builtin; refine Lib.wpList_append_run _ rfl _ _ _ _ rfl _ _ rfl rfl _ _ (hrz _) ?_)
    | (at_builtin; refine wpList_copy_runI _ rfl _ _ 28 28 rfl _ _ rfl rfl (hcp1 _ _) ?_))
  go_region_law_o (refine step_copy_runI rfl _ _ 28 28 rfl (.slice (some ⟨B, 1, none⟩) N (G - 1)) (.slice (some ⟨b, 0, none⟩) N c) (by simp [Act.eval, Act.put]) (by simp [Act.eval, Act.put]) (hcp2 _ _ _) ?_)
  go_wp2
  go_ret
  have hbz := HBz.out
  subst hbz
  exact ⟨G, rfl, HPO.out, HK3.out⟩
set_option maxHeartbeats 4000000 in
set_option maxRecDepth 1000000 in
theorem insU_nil (x v : Nat) (w : World) (hv : BlkIs #[uV x] 22 v w) :
    Calls Tryz.prog 142 #[.slice none 0 0, .int .i64 0, .slice (some ⟨v, 0, none⟩) 1 1] w fun e w' => ∃ g G, e = .returned (.slice (some ⟨g, 0, none⟩) 1 G) ∧ RowU [x] g G w' ∧ w.heap.size ≤ g ∧ Kept [] w w' := by
  obtain ⟨i0, hi, hz0, hz1, hz2⟩ := info_parts infoU64f
  have HO := Lib.hid (World.ownsRow_nil w w.heap.size 22 1)
  have HNW : Hid (∀ j u, ([uV x] : List Value)[j]? = some u → w.cell? ((⟨v, 0, none⟩ : Addr).add j) = some u) := Lib.hid (fun j u hj => by
    rw [Addr.add_lit, Nat.zero_add, hv.cell j]
    simpa using hj)
  go_enter Tryz.func142, Tryz.ntmps142
  go_wp2_with (at_builtin; refine wpList_append_own _ rfl _ _ 28 rfl w.heap.size 22 i0 (.int .u64 0) 1 8 Tryz.underlying28 hi hz0 hz1 hz2 rfl (by decide) (.slice none 0 0) 0 [] rfl HO.out ⟨v, 0, none⟩ 1 1 [uV x] rfl rfl HNW.out (fun u hu => by simp at hu; subst hu; rfl) (by decide) (by decide) (Nat.le_refl _) ?_; intro v' w' ho hg hne)
  go_ret
  have hn : ¬ v' = .slice none 0 0 := fun e => by have := (hne.1 e).2; omega
  rcases ho.2 with ⟨e, _⟩ | ⟨g, cap, cur, e, hB, hgb, hcap, hcm, hcs, ht⟩
  · exact absurd e hn
  · subst e
    refine ⟨g, cap, rfl, ⟨⟨cur.toList.drop 1, ?_, ?_⟩, by unfold maxLen at hcm; exact hcm⟩, hB, (Kept.refl [] w).grown hg (fun q hq => by simp [Value.ownBlock] at hq)⟩
    · have e2 : ([x] : List Nat).map uV = cur.toList.take 1 := by simpa using ht.symm
      rw [e2, List.take_append_drop, Array.toArray_toList]
      exact hgb
    · simp
      omega
end Go.Proofs.YtbiglbclifbmhaaGreatDoor

namespace Go.Proofs.YtbiglbclifbmhaaGreatDoor
open Go.ChangeShapes Go.WideShapes Go.ChangeAt Go.RowKit
set_option linter.unusedVariables false
set_option linter.unusedSimpArgs false

/-- The closed intervals: nothing yet, or a row at block b. -/
def ClosAt (l : List Nat) (cl : Value) (C b : Nat) (w : World) : Prop :=
  (l = [] ∧ cl = .slice none 0 0 ∧ b = C) ∨ (l ≠ [] ∧ ∃ c, cl = .slice (some ⟨b, 0, none⟩) l.length c ∧ RowU l b c w)
/-- A receiver whole: at block C; its closed intervals at block b. -/
def FeedAt (x : FeS) (C b : Nat) (w : World) : Prop := ∃ cl, FdAt x.s cl C w ∧ ClosAt x.l cl C b w
theorem RowU.lt {l : List Nat} {b c : Nat} {w : World} (h : RowU l b c w) : b < w.heap.size := by
  obtain ⟨T, h1, _⟩ := h.blk
  exact h1.lt
theorem RowU.cap1 {l : List Nat} {b c : Nat} {w : World} (h : RowU l b c w) : l.length ≤ c := by
  obtain ⟨T, _, h2⟩ := h.blk
  omega
theorem RowU.ne {l : List Nat} {b c C : Nat} {cs : Array Value} {w : World} (h : RowU l b c w) (k : BlkIs cs 79 C w) : b ≠ C := by
  obtain ⟨T, h1, _⟩ := h.blk
  intro e
  subst e
  unfold BlkIs at h1 k
  rw [h1] at k
  injection k with k
  injection k with _ k _
  revert k
  decide
theorem ClosAt.below {l : List Nat} {cl : Value} {C b : Nat} {w w' : World} (h : ClosAt l cl C b w) (k : Below w.heap.size w w') : ClosAt l cl C b w' := by
  rcases h with h | ⟨h1, c, h2, h3⟩
  · exact .inl h
  · exact .inr ⟨h1, c, h2, h3.kept (Kept.of_below [] k) (by simp)⟩
theorem ClosAt.kept {l : List Nat} {cl : Value} {C b : Nat} {S : List Nat} {w w' : World} (h : ClosAt l cl C b w) (k : Kept S w w') (hn : b = C ∨ b ∉ S) (hC : ∀ {cs : Array Value}, l ≠ [] → b ≠ C) : ClosAt l cl C b w' := by
  rcases h with h | ⟨h1, c, h2, h3⟩
  · exact .inl h
  · exact .inr ⟨h1, c, h2, h3.kept k (hn.resolve_left (hC (cs := #[]) h1))⟩
theorem FeedAt.below {x : FeS} {C b : Nat} {w w' : World} (h : FeedAt x C b w) (k : Below w.heap.size w w') : FeedAt x C b w' := by
  obtain ⟨cl, h1, h2⟩ := h
  exact ⟨cl, h1.below k, h2.below k⟩
theorem FeedAt.lt {x : FeS} {C b : Nat} {w : World} (h : FeedAt x C b w) : C < w.heap.size ∧ b < w.heap.size := by
  obtain ⟨cl, h1, h2⟩ := h
  refine ⟨h1.blk.lt, ?_⟩
  rcases h2 with ⟨_, _, rfl⟩ | ⟨_, c, _, h3⟩
  · exact h1.blk.lt
  · exact h3.lt
theorem FeedAt.kept {x : FeS} {C b : Nat} {S : List Nat} {w w' : World} (h : FeedAt x C b w) (k : Kept S w w') (hC : C ∉ S) (hb : b ∉ S) : FeedAt x C b w' := by
  obtain ⟨cl, h1, h2⟩ := h
  refine ⟨cl, h1.kept k hC, ?_⟩
  rcases h2 with h | ⟨h1, c, h2, h3⟩
  · exact .inl h
  · exact .inr ⟨h1, c, h2, h3.kept k hb⟩
theorem feedLen_any (a b : Nat) (ha : a < 281474976710656) (hb : b < 281474976710656) (W : World) : Calls Tryz.prog 79 #[.int .u64 a, .int .u64 b] W fun e w' => e = .returned (.int .u64 (lenU a b : Nat)) ∧ W = w' := by
  obtain ⟨Z, hZ⟩ : ∃ Z : Nat, IntKind.u64.wrap ((b : Int) - (a : Int)) = (Z : Int) := ⟨(IntKind.u64.wrap ((b : Int) - (a : Int))).toNat, by rw [IntKind.wrap_u64]; omega⟩
  have h2 : Z < 18446744073709551616 := by rw [IntKind.wrap_u64] at hZ; omega
  have h1 : (Z : Int) % 281474976710656 = (lenU a b : Int) := by
    rw [← hZ, IntKind.wrap_u64]
    unfold lenU
    omega
  have hO : Hid (∀ W, Calls Tryz.prog 48 #[.int .u64 Z] W fun e w' => e = .returned (.int .u64 (lenU a b : Nat)) ∧ W = w') := Lib.hid (fun W => by
    have h9 := seqOf_any Z h2 W
    rw [h1] at h9
    exact h9)
  generalize lenU a b = R at *
  clear h1
  go_enter Tryz.func79, Tryz.ntmps79
  go_wp2_with (go_at_call 48; (with_reducible refine (hO.out _).mono ?_); rintro e w1 ⟨rfl, rfl⟩)
  go_ret
  exact ⟨rfl, rfl⟩
/-- One more at the head of the closed ones. -/
theorem insU_feed (s : FdS) (l : List Nat) (hl : l.length ≤ 8) (iv v : Nat) (cl : Value) (C b : Nat) (w : World) (hf : FdAt s cl C w) (hc : ClosAt l cl C b w) (hv : BlkIs #[uV iv] 22 v w) (hne : v ≠ b) :
    Calls Tryz.prog 142 #[cl, .int .i64 0, .slice (some ⟨v, 0, none⟩) 1 1] w fun e w' => ∃ g G, e = .returned (.slice (some ⟨g, 0, none⟩) (l.length + 1) G) ∧ FdAt s cl C w' ∧ RowU (iv :: l) g G w' ∧ g ≠ C ∧ (g = b ∨ w.heap.size ≤ g) ∧ Kept [C, b] w w' := by
  have hCl := hf.blk.lt
  rcases hc with ⟨rfl, rfl, rfl⟩ | ⟨h0, c, rfl, hr⟩
  · refine (insU_nil iv v w hv).mono ?_
    rintro e w' ⟨g, G, rfl, h1, h2, h3⟩
    exact ⟨g, G, rfl, hf.kept h3 (by simp), h1, by omega, .inr h2, h3.more (fun x hx => by cases hx)⟩
  · have hbC := hr.ne hf.blk
    have h1 : 1 ≤ l.length := by
      rcases l with _ | ⟨a, l⟩
      · exact absurd rfl h0
      · simp
    by_cases hroom : l.length + 1 ≤ c
    · refine (insU_room l h1 (by omega) iv b c v hroom w hr hv hne).mono ?_
      rintro e w' ⟨rfl, h3, h4⟩
      exact ⟨b, c, rfl, hf.kept h4 (by simpa using fun e => hbC e.symm), h3, hbC, .inl rfl, h4.more (fun x hx => by simp at hx; simp [hx])⟩
    · refine (insU_grow l h1 (by omega) iv b c v (by omega) w hr hv).mono ?_
      rintro e w' ⟨G, rfl, h3, h4⟩
      exact ⟨_, G, rfl, hf.kept h4 (by simp), h3, by omega, .inr (Nat.le_refl _), h4.more (fun x hx => by cases hx)⟩
/-- An event begins. -/
def FdS.ev (s : FdS) (n : Nat) (t : Int) : FdS := { s with en := n, eat := t }
set_option maxHeartbeats 4000000 in
set_option maxRecDepth 100000 in
theorem feedBegin_any (x : FeS) (n : Nat) (t : Int) (iv : Nat) (hl : x.l.length ≤ 8) (C b : Nat) (w : World) (h : FeedAt x C b w) :
    Calls Tryz.prog 107 #[.pointer (some ⟨C, 0, none⟩), .agg #[.int .u64 n, .int .i64 t], .int .u64 iv] w fun e w' => e = .returned (.tuple #[]) ∧ ∃ b', FeedAt ⟨x.s.ev n t, (iv :: x.l).take 8⟩ C b' w' ∧ Kept [C, b] w w' ∧ (b' = b ∨ w.heap.size ≤ b') := by
  have hblt := h.lt.2
  obtain ⟨cl, hf, hc⟩ := h
  obtain ⟨W1, hW1⟩ : ∃ W1, W1 = w.alloc (.cells #[.int .u64 n, .int .i64 t] 77) := ⟨_, rfl⟩
  have hw1 : Below w.heap.size w W1 := by rw [hW1]; exact bel_alloc _ _
  have bx : BlkIs #[.int .u64 n, .int .i64 t] 77 w.heap.size W1 := by rw [hW1]; exact BlkIs.new _ _ _
  have hf1 := hf.below hw1
  have hc1 := hc.below hw1
  have x0 : W1.cell? ⟨w.heap.size, 0, none⟩ = some (.int .u64 n) := bx.cell 0
  have x1 : W1.cell? ⟨w.heap.size, 1, none⟩ = some (.int .i64 t) := bx.cell 1
  have a6 := hf1.tail.2.2.1
  have a7 := hf1.tail.2.2.2.1
  have f6 := hf1.blk.free 506
  have f7 := hf1.blk.free 507
  have HF1 := Lib.hid hf1
  have HC1 := Lib.hid hc1
  have HB1 := Lib.hid hw1
  have HL := Lib.hid hl
  have HBL := Lib.hid hblt
  clear hf hc hf1 hc1 hw1 bx hl hblt
  go_enter Tryz.func107, Tryz.ntmps107
  go_upto_region 1 with (refine box_at rfl _ _ rfl _ rfl ?_)
  rw [← hW1]
  clear hW1
  go_upto_region 2 with fail
  obtain ⟨W2, hW2⟩ : ∃ W2, (W1.setCell ⟨C, 506, none⟩ (.int .u64 n)).setCell ⟨C, 507, none⟩ (.int .i64 t) = W2 := ⟨_, rfl⟩
  have h2 : FdAt (x.s.ev n t) cl C W2 := by
    rw [← hW2]
    exact (HF1.out.setTail (t := { x.s with en := n }) (cl' := cl) 2 (by decide) _ rfl rfl rfl).setTail (cl' := cl) 3 (by decide) _ rfl rfl rfl
  have k2 : Kept [C] w W2 := by rw [← hW2]; exact ((Kept.of_below [C] HB1.out).setCell (.inl (by simp)) _).setCell (.inl (by simp)) _
  have c2 : ClosAt x.l cl C b W2 := HC1.out.kept (S := [C]) (w' := W2) (by rw [← hW2]; exact ((Kept.refl [C] W1).setCell (.inl (by simp)) _).setCell (.inl (by simp)) _) (by
    by_cases e : b = C
    · exact .inl e
    · exact .inr (by simpa using e)) (fun {_} h0 => by
      rcases HC1.out with ⟨h9, _⟩ | ⟨_, c, _, h9⟩
      · exact absurd h9 h0
      · exact h9.ne HF1.out.blk)
  rw [hW2]
  clear hW2 x0 x1 a6 a7 f6 f7 HF1 HC1 HB1
  obtain ⟨s2, hs2⟩ : ∃ s2 : FdS, x.s.ev n t = s2 := ⟨_, rfl⟩
  rw [hs2] at h2
  obtain ⟨l, hll⟩ : ∃ l, x.l = l := ⟨_, rfl⟩
  rw [hll] at c2 HL
  have HS2 := Lib.hid hs2
  have HLL := Lib.hid hll
  obtain ⟨N, hN⟩ : ∃ N, l.length = N := ⟨_, rfl⟩
  have a8 := h2.tail.2.2.2.2.1
  have HI : Hid (Calls Tryz.prog 142 #[cl, .int .i64 0, .slice (some ⟨W2.heap.size, 0, none⟩) 1 1] (W2.alloc (.cells #[.int .u64 iv] 22)) fun e w' => ∃ g G, e = .returned (.slice (some ⟨g, 0, none⟩) (N + 1) G) ∧ FdAt s2 cl C w' ∧ RowU (iv :: l) g G w' ∧ g ≠ C ∧ (g = b ∨ w.heap.size ≤ g) ∧ Kept [C, b] w w') := Lib.hid (by
    have hb := bel_alloc W2 (.cells #[.int .u64 iv] 22)
    have h9 := insU_feed s2 l HL.out iv W2.heap.size cl C b (W2.alloc (.cells #[.int .u64 iv] 22)) (h2.below hb) (c2.below hb) (BlkIs.new _ _ _) (by have := HBL.out; have := k2.size; omega)
    rw [hN] at h9
    refine h9.mono ?_
    rintro e w' ⟨g, G, rfl, q1, q2, q3, q4, q5⟩
    refine ⟨g, G, rfl, q1, q2, q3, ?_, (k2.more (fun x hx => by simp at hx; simp [hx])).trans' ((Kept.of_below _ hb).trans' q5)⟩
    rcases q4 with q4 | q4
    · exact .inl q4
    · exact .inr (by have := k2.size; simp at q4; omega))
  have a8' : (W2.alloc (.cells #[.int .u64 iv] 22)).cell? ⟨C, 508, none⟩ = some cl := (h2.below (bel_alloc _ _)).tail.2.2.2.2.1
  clear h2 c2 k2 hs2 hll
  go_upto_region 3 with (go_at_call 142; refine HI.out.mono ?_; rintro e w3 ⟨g, G, rfl, h3, r3, hgC, hgb, k3⟩; have m0 : w3.cell? ⟨C, 508, none⟩ = some cl := h3.tail.2.2.2.2.1; have m1 := h3.blk.free 508)
  obtain ⟨W4, hW4⟩ : ∃ W4, w3.setCell ⟨C, 508, none⟩ (.slice (some ⟨g, 0, none⟩) (N + 1) G) = W4 := ⟨_, rfl⟩
  have h4 : FdAt s2 (.slice (some ⟨g, 0, none⟩) (N + 1) G) C W4 := by
    rw [← hW4]
    exact h3.setTail (t := s2) (cl' := .slice (some ⟨g, 0, none⟩) (N + 1) G) 4 (by decide) _ rfl rfl rfl
  have k4 : Kept [C, b] w W4 := by rw [← hW4]; exact k3.setCell (.inl (by simp)) _
  have r4 : RowU (iv :: l) g G W4 := by rw [← hW4]; exact r3.kept ((Kept.refl [C] _).setCell (.inl (by simp)) _) (by simpa using hgC)
  rw [hW4]
  have hG1 : N + 1 ≤ G := by have := r4.cap1; rw [List.length_cons, hN] at this; exact this
  have hG2 := r4.cap2
  obtain ⟨K, hK⟩ : ∃ K, min (N + 1) 8 = K := ⟨_, rfl⟩
  obtain ⟨p1, p2, p3, p4, p5, p6⟩ := mns (N + 1) 8 K hK
  have d8 := h4.tail.2.2.2.2.1
  have e8 := h4.blk.free 508
  have hNl := HL.out
  rw [hN] at hNl
  have HR4 := Lib.hid (r4.cut 8)
  have H4 := Lib.hid h4
  have HK4 := Lib.hid k4
  have HKe := Lib.hid hK
  clear hW4 m0 m1 h3 r3 k3 a8 a8' HI h4 k4 r4 hK p4
  have i1 : (if (8 : Int) < ((N + 1 : Nat) : Int) then (8 : Int) else ((N + 1 : Nat) : Int)) = (K : Int) := p1
  have i2 : (if 8 < N + 1 then (8 : Int) else ((N + 1 : Nat) : Int)) = (K : Int) := p2
  have i3 : min ((N + 1 : Nat) : Int) 8 = (K : Int) := p3
  have j1 : (if (8 : Int) < (N : Int) + 1 then (8 : Int) else (N : Int) + 1) = (K : Int) := by rw [← p1]; rfl
  have j3 : min ((N : Int) + 1) 8 = (K : Int) := by omega
  have j4 : K ≤ N + 1 := p5
  have j5 : K ≤ G := by omega
  clear p1 p2 p3
  go_region
  all_goals
    go_wp2
    go_end0
    rw [HS2.out, HLL.out]
    refine ⟨rfl, g, ⟨.slice (some ⟨g, 0, none⟩) K G, ?_, .inr ⟨by simp, G, ?_, ?_⟩⟩, ?_, hgb⟩
    · first
        | exact (H4.out.setTail (t := s2) (cl' := .slice (some ⟨g, 0, none⟩) K G) 4 (by decide) _ rfl rfl rfl).below (bel_drewN _ 1)
        | exact (H4.out.below (bel_drewN W4 1)).setTail (t := s2) (cl' := .slice (some ⟨g, 0, none⟩) K G) 4 (by decide) _ rfl rfl rfl
    · rw [List.length_take, List.length_cons, hN, Nat.min_comm, HKe.out]
    · first
        | exact HR4.out.kept (((Kept.refl [C] W4).setCell (.inl (by simp)) _).drew) (by simpa using hgC)
        | exact HR4.out.kept (((Kept.refl [C] W4).drew).setCell (.inl (by simp)) _) (by simpa using hgC)
    · first
        | exact (HK4.out.setCell (.inl (by simp)) _).drew
        | exact HK4.out.drew.setCell (.inl (by simp)) _
end Go.Proofs.YtbiglbclifbmhaaGreatDoor

namespace Go.Proofs.YtbiglbclifbmhaaGreatDoor
open Go.ChangeShapes Go.WideShapes Go.ChangeAt Go.RowKit
set_option linter.unusedVariables false
set_option linter.unusedSimpArgs false

def FdS.lost1 (s : FdS) : FdS := { s with lost := s.lost + 1 }
theorem FeS.take_none (x : FeS) (e : Nat × Int) (h : x.l = []) : x.take e = ⟨x.s.lost1.ev e.1 e.2, (max (lenU x.s.first e.1) 1 :: x.l).take 8⟩ := by unfold FeS.take; rw [if_pos h, h]; rfl
theorem FeS.take_late (x : FeS) (e : Nat × Int) (h : x.l ≠ []) (h2 : x.s.eat + x.s.round < e.2) : x.take e = ⟨x.s.lost1.ev e.1 e.2, (lenU x.s.en e.1 :: x.l).take 8⟩ := by unfold FeS.take; rw [if_neg h, if_pos h2]; rfl
theorem FeS.take_soon (x : FeS) (e : Nat × Int) (h : x.l ≠ []) (h2 : ¬ x.s.eat + x.s.round < e.2) : x.take e = ⟨x.s.lost1, x.l⟩ := by unfold FeS.take; rw [if_neg h, if_neg h2]; rfl
set_option maxHeartbeats 4000000 in
set_option maxRecDepth 100000 in
theorem feedTake_any (x : FeS) {K : Nat} (hx : x.Ok K) (hK : K ≤ 1000000000) (n : Nat) (t : Int) (hn : n < 281474976710656) (ht : timeOk t) (C b : Nat) (w : World) (h : FeedAt x C b w) :
    Calls Tryz.prog 78 #[.pointer (some ⟨C, 0, none⟩), .agg #[.int .u64 n, .int .i64 t]] w fun e w' => e = .returned (.tuple #[]) ∧ ∃ b', FeedAt (x.take (n, t)) C b' w' ∧ Kept [C, b] w w' ∧ (b' = b ∨ w.heap.size ≤ b') := by
  have hblt := h.lt
  obtain ⟨cl, hf, hc⟩ := h
  obtain ⟨W1, hW1⟩ : ∃ W1, W1 = w.alloc (.cells #[.int .u64 n, .int .i64 t] 77) := ⟨_, rfl⟩
  have hw1 : Below w.heap.size w W1 := by rw [hW1]; exact bel_alloc _ _
  have bx : BlkIs #[.int .u64 n, .int .i64 t] 77 w.heap.size W1 := by rw [hW1]; exact BlkIs.new _ _ _
  have hf1 := hf.below hw1
  have hc1 := hc.below hw1
  have hlo := hx.lost
  obtain ⟨L, hL⟩ : ∃ L : Nat, x.s.lost = (L : Int) := ⟨x.s.lost.toNat, by omega⟩
  have a5 := hf1.tail.2.1
  rw [hL] at a5
  have f5 := hf1.blk.free 505
  have hLm : L ≤ 1000000000 := by omega
  have i5 : IntKind.i64.wrap ((L : Int) + 1) = ((L + 1 : Nat) : Int) := by rw [IntKind.wrap_i64]; omega
  have j5 : wrap64 ((L : Int) + 1) = ((L + 1 : Nat) : Int) := by unfold wrap64; omega
  have HF1 := Lib.hid hf1
  have HC1 := Lib.hid hc1
  have HB1 := Lib.hid hw1
  have HX := Lib.hid hx
  have HLT := Lib.hid hblt
  have HLE := Lib.hid hL
  have HT := Lib.hid ht
  have HBX := Lib.hid bx
  clear hf hc hf1 hc1 hw1 bx hx hblt hlo hL ht
  go_enter Tryz.func78, Tryz.ntmps78
  go_upto_region 1 with (refine box_at rfl _ _ rfl _ rfl ?_)
  rw [← hW1]
  clear hW1
  go_upto_region 2 with fail
  obtain ⟨W2, hW2⟩ : ∃ W2, W1.setCell ⟨C, 505, none⟩ (.int .i64 ((L : Int) + 1)) = W2 := ⟨_, rfl⟩
  have h2 : FdAt x.s.lost1 cl C W2 := by
    rw [← hW2]
    exact HF1.out.setTail (t := x.s.lost1) (cl' := cl) 1 (by decide) _ rfl rfl (by unfold FdS.lost1; rw [HLE.out]; rfl)
  have kk : Kept [C] W1 W2 := by rw [← hW2]; exact (Kept.refl [C] W1).setCell (.inl (by simp)) _
  have k2 : Kept [C] w W2 := (Kept.of_below [C] HB1.out).trans' kk
  have hbC : x.l ≠ [] → b ≠ C := fun h0 => by
    rcases HC1.out with ⟨h9, _⟩ | ⟨_, c, _, h9⟩
    · exact absurd h9 h0
    · exact h9.ne HF1.out.blk
  have c2 : ClosAt x.l cl C b W2 := HC1.out.kept (S := [C]) kk (by
    by_cases e : b = C
    · exact .inl e
    · exact .inr (by simpa using e)) (fun {_} h0 => hbC h0)
  have bx : BlkIs #[.int .u64 n, .int .i64 t] 77 w.heap.size W2 := HBX.out.kept kk (by have := HLT.out.1; simp; omega)
  rw [hW2]
  clear hW2 a5 f5 i5 j5 HF1 HC1 HB1 kk HBX
  have HF2 : Hid (FeedAt ⟨x.s.lost1, x.l⟩ C b W2) := Lib.hid ⟨cl, h2, c2⟩
  have HK2 := Lib.hid k2
  have x0 : W2.cell? ⟨w.heap.size, 0, none⟩ = some (.int .u64 n) := bx.cell 0
  have x1 : W2.cell? ⟨w.heap.size, 1, none⟩ = some (.int .i64 t) := bx.cell 1
  have a8 := h2.tail.2.2.2.2.1
  have hfi := HX.out.first
  have hen := HX.out.en
  rcases c2 with ⟨h0, rfl, _⟩ | ⟨h0, c, rfl, hr⟩
  · have a2 : W2.cell? ⟨C, 2, none⟩ = some (.int .u64 x.s.first) := h2.head.2.2.1
    have HLN := Lib.hid (fun W => feedLen_any x.s.first n hfi hn W)
    obtain ⟨q, hq⟩ : ∃ q, max (lenU x.s.first n) 1 = q := ⟨_, rfl⟩
    obtain ⟨m1, m2, m3, m4, m5, m6⟩ := mxs (lenU x.s.first n) 1 q hq
    have HBG : Hid (Calls Tryz.prog 107 #[.pointer (some ⟨C, 0, none⟩), .agg #[.int .u64 n, .int .i64 t], .int .u64 q] W2.drew fun e w' => e = .returned (.tuple #[]) ∧ ∃ b', FeedAt (x.take (n, t)) C b' w' ∧ Kept [C, b] w w' ∧ (b' = b ∨ w.heap.size ≤ b')) := Lib.hid (by
      refine (feedBegin_any ⟨x.s.lost1, x.l⟩ n t q HX.out.ll C b W2.drew (HF2.out.below (bel_drewN W2 1))).mono ?_
      rintro e w' ⟨rfl, b', g1, g2, g3⟩
      refine ⟨rfl, b', ?_, (HK2.out.more (fun x hx => by simp at hx; simp [hx])).drew.trans' g2, ?_⟩
      · rw [FeS.take_none x (n, t) h0]
        rw [← hq] at g1
        exact g1
      · rcases g3 with g3 | g3
        · exact .inl g3
        · exact .inr (Nat.le_trans HK2.out.size g3))
    generalize lenU x.s.first n = V at *
    generalize x.s.first = F at *
    have m1' : (if (V : Int) < 1 then (1 : Int) else (V : Int)) = (q : Int) := m1
    have m2' : (if V < 1 then (1 : Int) else (V : Int)) = (q : Int) := m2
    have m3' : max (V : Int) 1 = (q : Int) := m3
    clear h2 k2 bx HF2 HK2 HX HLT m1 m2 m3 m4 m5 m6 hq
    go_wp2
    go_region_with (first
      | (go_at_call 79; (with_reducible refine (HLN.out _).mono ?_); rintro e w1 ⟨rfl, rfl⟩)
      | (go_at_call 107; (with_reducible refine HBG.out.mono ?_); rintro e w3 ⟨rfl, b', g1, g2, g3⟩))
    all_goals
      go_wp2
      go_end0
      exact ⟨rfl, b', g1, g2, g3⟩
  · have a0 : W2.cell? ⟨C, 0, none⟩ = some (.int .i64 x.s.round) := h2.head.1
    have a6 : W2.cell? ⟨C, 506, none⟩ = some (.int .u64 x.s.en) := h2.tail.2.2.1
    have a7 : W2.cell? ⟨C, 507, none⟩ = some (.int .i64 x.s.eat) := h2.tail.2.2.2.1
    obtain ⟨N, hN⟩ : ∃ N, x.l.length = N := ⟨_, rfl⟩
    have hN1 : ¬ N = 0 := by
      rw [← hN]
      intro e
      exact h0 (List.length_eq_zero_iff.1 e)
    have hN2 : ((N : Int) == 0) = false := by rw [beq_eq_false_iff_ne]; omega
    rw [hN] at a8
    have he1 := HX.out.eat.1
    have he2 := HX.out.eat.2
    have hr1 := HX.out.round.1
    have hr2 := HX.out.round.2
    have q1 : IntKind.i64.wrap (x.s.eat + x.s.round) = x.s.eat + x.s.round := by rw [IntKind.wrap_i64]; omega
    have q2 : wrap64 (x.s.eat + x.s.round) = x.s.eat + x.s.round := by unfold wrap64; omega
    have HLN := Lib.hid (fun W => feedLen_any x.s.en n hen hn W)
    have HBG : Hid (x.s.eat + x.s.round < t → ∀ m, Calls Tryz.prog 107 #[.pointer (some ⟨C, 0, none⟩), .agg #[.int .u64 n, .int .i64 t], .int .u64 (lenU x.s.en n)] (W2.drewN m) fun e w' => e = .returned (.tuple #[]) ∧ ∃ b', FeedAt (x.take (n, t)) C b' w' ∧ Kept [C, b] w w' ∧ (b' = b ∨ w.heap.size ≤ b')) := Lib.hid (fun hlt m => by
      refine (feedBegin_any ⟨x.s.lost1, x.l⟩ n t (lenU x.s.en n) HX.out.ll C b (W2.drewN m) (HF2.out.below (bel_drewN W2 m))).mono ?_
      rintro e w' ⟨rfl, b', g1, g2, g3⟩
      refine ⟨rfl, b', ?_, ((HK2.out.more (fun x hx => by simp at hx; simp [hx])).drewN m).trans' g2, ?_⟩
      · rw [FeS.take_late x (n, t) h0 hlt]
        exact g1
      · rcases g3 with g3 | g3
        · exact .inl g3
        · exact .inr (Nat.le_trans HK2.out.size g3))
    have HNO : Hid (¬ x.s.eat + x.s.round < t → ∀ m, FeedAt (x.take (n, t)) C b (W2.drewN m) ∧ Kept [C, b] w (W2.drewN m)) := Lib.hid (fun hlt m => by
      rw [FeS.take_soon x (n, t) h0 hlt]
      exact ⟨HF2.out.below (bel_drewN W2 m), (HK2.out.more (fun x hx => by simp at hx; simp [hx])).drewN m⟩)
    generalize lenU x.s.en n = V at *
    generalize x.s.en = F at *
    generalize x.s.eat = E at *
    generalize x.s.round = R at *
    have q3 := Lib.hid q1
    clear h2 k2 bx HF2 HK2 HX HLT hr h0 hN HLE he1 he2 hr1 hr2
    obtain ⟨T, hT⟩ : ∃ T, E + R = T := ⟨_, rfl⟩
    rw [hT] at q1 q2 HBG HNO
    clear q3
    by_cases hlt : T < t
    · have d0 : decide (T < t) = true := decide_eq_true hlt
      have HBG2 := Lib.hid (HBG.out hlt)
      go_upto_region 4 with fail
      go_quiet (fail)
      have HBG3 : Hid (Calls Tryz.prog 107 #[.pointer (some ⟨C, 0, none⟩), .agg #[.int .u64 n, .int .i64 t], .int .u64 V] (W2.drewN nq).drew fun e w' => e = .returned (.tuple #[]) ∧ ∃ b', FeedAt (x.take (n, t)) C b' w' ∧ Kept [C, b] w w' ∧ (b' = b ∨ w.heap.size ≤ b')) := Lib.hid (by
        have h9 := HBG2.out (nq + 1)
        rw [show W2.drewN (nq + 1) = (W2.drewN nq).drew by first | rfl | exact World.drewN_drewN W2 nq 1 | exact (World.drewN_drewN W2 nq 1).symm] at h9
        exact h9)
      have y0 : (W2.drewN nq).cell? ⟨w.heap.size, 0, none⟩ = some (.int .u64 n) := x0
      have y1 : (W2.drewN nq).cell? ⟨w.heap.size, 1, none⟩ = some (.int .i64 t) := x1
      have y6 : (W2.drewN nq).cell? ⟨C, 506, none⟩ = some (.int .u64 F) := a6
      clear HBG2 HBG HNO x0 x1 a0 a6 a7 a8
      generalize W2.drewN nq = W3 at *
      go_wp2
      go_region_with (first
        | (go_at_call 79; (with_reducible refine (HLN.out _).mono ?_); rintro e w1 ⟨rfl, rfl⟩)
        | (go_at_call 107; (with_reducible refine HBG3.out.mono ?_); rintro e w3 ⟨rfl, b', g1, g2, g3⟩))
      all_goals
        go_wp2
        go_end0
        exact ⟨rfl, b', g1, g2, g3⟩
    · have d0 : decide (T < t) = false := decide_eq_false hlt
      have HNO2 := Lib.hid (HNO.out hlt)
      go_upto_region 4 with fail
      go_quiet (fail)
      go_wp2
      go_end0
      exact ⟨rfl, b, (HNO2.out nq).1, (HNO2.out nq).2, .inl rfl⟩
end Go.Proofs.YtbiglbclifbmhaaGreatDoor

namespace Go.Proofs.YtbiglbclifbmhaaGreatDoor
open Go.ChangeShapes Go.WideShapes Go.ChangeAt Go.RowKit Go.Shelf
attribute [local go_sem] Oper.semAt_some
set_option linter.unusedVariables false
set_option linter.unusedSimpArgs false

def lossList (l : List (Nat × Int)) : List Value := l.flatMap fun e => [.int .u64 e.1, .int .i64 e.2]
theorem lossList_snoc (l : List (Nat × Int)) (e : Nat × Int) : lossList (l ++ [e]) = lossList l ++ [.int .u64 e.1, .int .i64 e.2] := by simp [lossList]
theorem lossList_len (l : List (Nat × Int)) : (lossList l).length = l.length * 2 := by
  induction l with
  | nil => rfl
  | cons c l ih => simp only [lossList, List.flatMap_cons, List.length_append, List.length_cons, List.length_nil] at *; omega
theorem lossList_get (l : List (Nat × Int)) (i : Nat) (h : i < l.length) : (lossList l)[i * 2]? = some (.int .u64 (l.getD i (0, 0)).1) ∧ (lossList l)[i * 2 + 1]? = some (.int .i64 (l.getD i (0, 0)).2) := by
  induction l generalizing i with
  | nil => simp at h
  | cons c l ih =>
    cases i with
    | zero => exact ⟨rfl, rfl⟩
    | succ i =>
      have := ih i (by simpa using h)
      have e : lossList (c :: l) = [.int .u64 c.1, .int .i64 c.2] ++ lossList l := rfl
      rw [e, List.getElem?_append_right (by simp; omega), List.getElem?_append_right (by simp; omega)]
      have e1 : (i + 1) * 2 - [Value.int .u64 c.1, .int .i64 c.2].length = i * 2 := by simp; omega
      have e2 : (i + 1) * 2 + 1 - [Value.int .u64 c.1, .int .i64 c.2].length = i * 2 + 1 := by simp; omega
      rw [e1, e2]
      simpa using this
theorem infoLoss : (Tryz.prog.info? 77).map (fun i => (i.zero, i.size, i.bytes)) = some (some (.agg #[.int .u64 0, .int .i64 0]), 2, 16) := by kernel_rfl
/-- A row of losses of the call's own. -/
def LossOwn (B : Nat) (v : Value) (l : List (Nat × Int)) (w : World) : Prop := w.ownsRow B 77 2 v l.length (lossList l) ∧ (l = [] → v = .slice none 0 0)
theorem LossOwn.nil (B : Nat) (w : World) : LossOwn B (.slice none 0 0) [] w := ⟨World.ownsRow_nil _ _ _ _, fun _ => rfl⟩
theorem LossOwn.kept {B : Nat} {v : Value} {l : List (Nat × Int)} {S : List Nat} {w w' : World} (h : LossOwn B v l w) (k : Kept S w w') (hn : ∀ x ∈ S, x < B) : LossOwn B v l w' := by
  refine ⟨⟨h.1.1, ?_⟩, h.2⟩
  rcases h.1.2 with hv | ⟨g, cap, cur, rfl, hb, hg, rest⟩
  · exact .inl hv
  · exact .inr ⟨g, cap, cur, rfl, hb, (k.block g (Array.getElem?_eq_some_iff.1 hg).1 (fun hm => by have := hn g hm; omega)).trans hg, rest⟩
theorem LossOwn.shape {B : Nat} {v : Value} {l : List (Nat × Int)} {w : World} (h : LossOwn B v l w) : ∃ p c, v = .slice p l.length c := by
  rcases h.1.2 with ⟨rfl, h0⟩ | ⟨g, cap, cur, rfl, _⟩
  · exact ⟨none, 0, by rw [h0]⟩
  · exact ⟨_, _, rfl⟩
theorem wp_l_in {F : Fence} {n : Nat} {ops : Array Oper} {rest : List Oper} {o : Oper} {a : Act} {Q : Exit → Act → World → Prop} (hgd : o.guard = none) (s x : Operand)
    (ho : o.op = .call { callee := .builtin .append, args := #[s, x], argTypes := #[126, 126] })
    (B : Nat) (v : Value) (l : List (Nat × Int)) (hs : a.eval s = v) (w0 w1 : World) (e : Nat × Int) (hw : w1 = w0.alloc (.cells #[.int .u64 e.1, .int .i64 e.2] 77)) (hb : LossOwn B v l w0) (hB : B ≤ w0.heap.size) (H : Nat) (hH : w0.heap.size = H)
    (hx : a.eval x = .slice (some ⟨H, 0, none⟩) 1 1) (hlen : l.length ≤ 1073741824)
    (h : ∀ v' w', LossOwn B v' (l ++ [e]) w' → Below B w0 w' → wpListIn F n Tryz.prog ops Q rest (a.put o.dst v') w') : wpListIn F n Tryz.prog ops Q (o :: rest) a w1 := by
  obtain ⟨i0, hi, hz0, hz1, hz2⟩ := info_parts infoLoss
  subst hH hw
  have hb' := hb.1.alloc (.cells #[.int .u64 e.1, .int .i64 e.2] 77)
  have hBa : Below B w0 (w0.alloc (.cells #[.int .u64 e.1, .int .i64 e.2] 77)) := (bel_alloc w0 _).mono hB
  refine wpListIn_append_own _ hgd s x 126 ho B 77 i0 (.agg #[.int .u64 0, .int .i64 0]) 2 16 Tryz.underlying126 hi hz0 hz1 hz2 rfl (by decide) v l.length (lossList l) hs hb' ⟨w0.heap.size, 0, none⟩ 1 1 [.int .u64 e.1, .int .i64 e.2] hx rfl (fun j u hu => ?_) (by intro u hu; simp at hu; rcases hu with rfl | rfl <;> rfl) (by unfold maxLen; omega) (by omega) (by simp; omega) ?_
  · have hadd : (⟨w0.heap.size, 0, none⟩ : Addr).add j = ⟨w0.heap.size, j, none⟩ := by unfold Addr.add; split <;> simp_all
    rw [hadd, cell_of_row _ _ _ _ _ _ (heap_alloc_new w0 (.cells #[.int .u64 e.1, .int .i64 e.2] 77))]
    simpa using hu
  · intro v' w' ho' hg _
    refine h v' w' ⟨?_, fun e0 => by simp at e0⟩ (hBa.grown hg (by simp; omega) (fun k hk => (hb'.lt k hk).1))
    rw [List.length_append, lossList_snoc]
    exact ho'
/-- What Backward reads: its box, the losses. -/
structure GoodL (Bs g c N : Nat) (cur : Array Value) (W : World) : Prop where
  box : BlkIs #[.slice (some ⟨g, 0, none⟩) N c] 126 Bs W
  row : BlkIs cur 77 g W
def KpL (Bs g c N : Nat) (cur : Array Value) (W W' : World) : Prop := GoodL Bs g c N cur W → GoodL Bs g c N cur W'
theorem KpL.trans {Bs g c N : Nat} {cur : Array Value} {A B C : World} (h : KpL Bs g c N cur A B) (k : KpL Bs g c N cur B C) : KpL Bs g c N cur A C := fun x => k (h x)
theorem KpL.put {Bs g c N : Nat} {cur : Array Value} (W : World) (l : Nat) (o' : Obj) (h1 : Bs ≠ l) (h2 : g ≠ l) : KpL Bs g c N cur W (W.putObj l o') := fun h =>
  ⟨(World.putObj_heap_other h1).trans h.box, (World.putObj_heap_other h2).trans h.row⟩
def seesL (ls : List (Nat × Int)) (k : Nat) (_ : World) (vs : Array Value) : Prop := vs = #[.int .i64 ((ls.length - 1 - k : Nat) : Int), .agg #[.int .u64 (ls.getD (ls.length - 1 - k) (0, 0)).1, .int .i64 (ls.getD (ls.length - 1 - k) (0, 0)).2]]
set_option maxRecDepth 100000 in
set_option maxHeartbeats 2000000 in
theorem backQ_in (F : Fence) (n : Nat) (hF : F.fn 106) (hro : F.round = none) (hn : 1 ≤ n) (l Bs g c : Nat) (ls : List (Nat × Int)) (cur : Array Value) (hcur : ∀ i, i < ls.length → cur[i * 2]? = some (.int .u64 (ls.getD i (0, 0)).1) ∧ cur[i * 2 + 1]? = some (.int .i64 (ls.getD i (0, 0)).2)) (hL : ls.length ≤ 1000) (J : Nat → World → Prop)
    (hY : ∀ k vs X, J k X → k < ls.length → seesL ls k X vs → YieldAt F (n - 1) Tryz.prog l vs X fun e Y => e = .returned (.bool true) ∧ J (k + 1) Y ∧ KpL Bs g c ls.length cur X Y)
    (W : World) (hG : GoodL Bs g c ls.length cur W) (hc1 : ls.length ≤ c) (hc2 : c ≤ 9223372036854775807) (h0 : J 0 W) :
    CallsIn F n Tryz.prog 106 #[.func (.yield l) #[] #[], .pointer (some ⟨Bs, 0, none⟩)] W fun e W' => (∃ v, e = .returned v) ∧ J ls.length W' := by
  have HG0 := Lib.hid hG
  have HCU := Lib.hid hcur
  obtain ⟨N, hN⟩ : ∃ N, ls.length = N := ⟨_, rfl⟩
  have HNe := Lib.hid hN
  have hBs : W.cell? ⟨Bs, 0, none⟩ = some (.slice (some ⟨g, 0, none⟩) N c) := by rw [← hN]; exact hG.box.cell 0
  rw [hN] at hL hY hc1 HG0 ⊢
  clear hG hcur hN
  refine callsIn_of_wp Tryz.func106 rfl hF ?_ hro
  simp only [Tryz.ntmps106, List.size_toArray, List.length_cons, List.length_nil, Nat.reduceAdd, Nat.reduceSub, Array.replicate_succ, Array.replicate_zero, List.push_toArray, List.append_toArray, List.nil_append, List.cons_append]
  gi_wp2
  gi_loopw [3] (fun i wr => ∃ k : Nat, k ≤ N ∧ i = .int .i64 ((N : Int) - 1 - (k : Int)) ∧ J k wr ∧ Hid (GoodL Bs g c N cur wr)) (fun i _ => (intOf i + 1).toNat)
  case atStart => exact ⟨0, Nat.zero_le _, by simp, h0, HG0⟩
  case round =>
    obtain ⟨k, hk, rfl, hJs, hgd⟩ := hrel
    have hBs2 : wr.cell? ⟨Bs, 0, none⟩ = some (.slice (some ⟨g, 0, none⟩) N c) := hgd.out.box.cell 0
    by_cases hlt : k < N
    · obtain ⟨m, hm⟩ : ∃ m, N - 1 - k = m := ⟨_, rfl⟩
      have hmi : (N : Int) - 1 - (k : Int) = (m : Int) := by omega
      have hml : m < N := by omega
      obtain ⟨x0', x1'⟩ := HCU.out m (by rw [HNe.out]; exact hml)
      have x0 : wr.cell? ⟨g, m * 2, none⟩ = _ := (hgd.out.row.cell (m * 2)).trans x0'
      have x1 : wr.cell? ⟨g, m * 2 + 1, none⟩ = _ := (hgd.out.row.cell (m * 2 + 1)).trans x1'
      obtain ⟨fn, tmps, assign, body, hy, hR⟩ := hY k _ wr hJs hlt rfl
      have HR := Lib.hid hR
      rw [HNe.out, hm] at hy
      generalize ls.getD m (0, 0) = r at *
      obtain ⟨a, t⟩ := r
      simp only at x0 x1 hy
      rw [hmi]
      clear hR hY hBs x0' x1'
      gi_wp2
      refine HR.out.mono ?_
      rintro e W3 ⟨rfl, hJ3, hk3⟩
      have hwr : IntKind.i64.wrap ((m : Int) - 1) = (m : Int) - 1 := by rw [IntKind.wrap_i64]; omega
      gi_wp2
      go_roundw
      case rel => exact ⟨k + 1, by omega, by congr 1; omega, hJ3, Lib.hid (hk3 hgd.out)⟩
      case measure => simp [intOf]
    · obtain rfl : k = N := by omega
      have hmi : (k : Int) - 1 - (k : Int) = -1 := by omega
      rw [hmi]
      gi_wp2
      go_end0
      exact ⟨⟨_, rfl⟩, hJs⟩
theorem backQ_rounds (F : Fence) (n : Nat) (hF : F.fn 106) (hro : F.round = none) (hn : 1 ≤ n) (Bs g c : Nat) (ls : List (Nat × Int)) (cur : Array Value) (hcur : ∀ i, i < ls.length → cur[i * 2]? = some (.int .u64 (ls.getD i (0, 0)).1) ∧ cur[i * 2 + 1]? = some (.int .i64 (ls.getD i (0, 0)).2)) (hL : ls.length ≤ 1000) (w : World) (hG : GoodL Bs g c ls.length cur w) (hc1 : ls.length ≤ c) (hc2 : c ≤ 9223372036854775807) :
    RoundsOf F n Tryz.prog 106 #[.pointer (some ⟨Bs, 0, none⟩)] (seesL ls) (KpL Bs g c ls.length cur) ls.length w := fun l J W hW hY h0 =>
  backQ_in F n hF hro hn l Bs g c ls cur hcur hL J hY W ⟨hG.box.below hW, hG.row.below hW⟩ hc1 hc2 h0
end Go.Proofs.YtbiglbclifbmhaaGreatDoor

namespace Go.Proofs.YtbiglbclifbmhaaGreatDoor
open Go.ChangeShapes Go.WideShapes Go.ChangeAt Go.RowKit Go.Shelf
attribute [local go_sem] Oper.semAt_some
set_option linter.unusedVariables false
set_option linter.unusedSimpArgs false

/-- The state of one number is written. -/
theorem FdAt.setState {s t : FdS} {cl : Value} {C : Nat} {w : World} (h : FdAt s cl C w) (a : Nat) (ha : a < 250) (v : Int) (ht : t.nums = s.nums.set a (v, (s.nums.getD a (0, 0)).2)) (e1 : fdHead t = fdHead s) (e3 : fdTail t cl = fdTail s cl) :
    FdAt t cl C (w.setCell ⟨C, 4 + a * 2, none⟩ (.int .i64 v)) := by
  have hlen := h.len
  have hl : (s.nums.take a).length = a := by rw [List.length_take, hlen]; omega
  obtain ⟨q, hq⟩ : ∃ q, s.nums.getD a (0, 0) = q := ⟨_, rfl⟩
  have e : s.nums = s.nums.take a ++ (q :: s.nums.drop (a + 1)) := by
    rw [← hq, List.getD_eq_getElem?_getD, List.getElem?_eq_getElem (by rw [hlen]; exact ha)]
    simp
  have e2 : t.nums = s.nums.take a ++ ((v, q.2) :: s.nums.drop (a + 1)) := by
    rw [ht, hq, List.set_eq_take_append_cons_drop, if_pos (by rw [hlen]; exact ha)]
  refine ⟨?_, by rw [ht, List.length_set]; exact hlen⟩
  have h1 := h.blk
  have k1 : ∀ (p : Int × Int) (m : List (Int × Int)), numList (p :: m) = [Value.int .i64 p.1] ++ ([Value.int .i64 p.2] ++ numList m) := fun p m => rfl
  unfold fdCells at h1 ⊢
  rw [e, numList_app, k1] at h1
  have h2 := BlkIs.seg [.int .i64 v] [.int .i64 q.1] (fdHead s ++ numList (s.nums.take a)) ([Value.int .i64 q.2] ++ numList (s.nums.drop (a + 1)) ++ fdTail s cl) w rfl (by simpa using h1)
  have e3' : (fdHead s ++ numList (s.nums.take a)).length = 4 + a * 2 := by rw [List.length_append, numList_len, hl]; rfl
  rw [e3'] at h2
  rw [e2, e1, e3, numList_app, k1]
  have h3 : BlkIs (fdHead s ++ (numList (s.nums.take a) ++ ([Value.int .i64 v] ++ ([Value.int .i64 q.2] ++ numList (s.nums.drop (a + 1)))) ++ fdTail s cl)).toArray 79 C (w.setCells C (4 + a * 2) [.int .i64 v]) := by simpa using h2
  exact h3
/-- Some numbers are others. -/
def FeS.withN (x : FeS) (L : List (Int × Int)) : FeS := ⟨{ x.s with nums := L }, x.l⟩
theorem BlkIs.ownF {cs : Array Value} {T : TypeId} {C : Nat} {X Y : World} {row : Option Nat} (h : BlkIs cs T C X) (hg : X.grownBy Y row) (hr : ∀ r, row = some r → ∃ o : Obj, X.heap[r]? = some o ∧ o.isCells = false) : BlkIs cs T C Y :=
  h.grown hg (fun e => by
    obtain ⟨o, ho, hc⟩ := hr C e.symm
    rw [show X.heap[C]? = _ from h] at ho
    cases ho
    cases hc)
theorem FeedAt.own {x : FeS} {C b : Nat} {X Y : World} {row : Option Nat} (h : FeedAt x C b X) (hg : X.grownBy Y row) (hr : ∀ r, row = some r → ∃ o : Obj, X.heap[r]? = some o ∧ o.isCells = false) : FeedAt x C b Y := by
  obtain ⟨cl, h1, h2⟩ := h
  refine ⟨cl, ⟨h1.blk.ownF hg hr, h1.len⟩, ?_⟩
  rcases h2 with h | ⟨h3, c, h4, h5⟩
  · exact .inl h
  · obtain ⟨T, h6, h7⟩ := h5.blk
    exact .inr ⟨h3, c, h4, ⟨⟨T, h6.ownF hg hr, h7⟩, h5.cap2⟩⟩
/-- A block of another kind is none of a receiver's. -/
theorem FeedAt.away {x : FeS} {C b g : Nat} {cs : Array Value} {T : TypeId} {w : World} (h : FeedAt x C b w) (k : BlkIs cs T g w) (h1 : T ≠ 79) (h2 : T ≠ 22) : g ≠ C ∧ g ≠ b := by
  have key : ∀ {cs' : Array Value} {T' X : Nat}, BlkIs cs' T' X w → T ≠ T' → g ≠ X := fun hb hne e => by
    subst e
    unfold BlkIs at hb k
    rw [hb] at k
    injection k with k
    injection k with _ k _
    exact hne k.symm
  obtain ⟨cl, h3, h4⟩ := h
  have hC := key h3.blk h1
  refine ⟨hC, ?_⟩
  rcases h4 with ⟨_, _, rfl⟩ | ⟨_, c, _, h5⟩
  · exact hC
  · obtain ⟨V, h6, _⟩ := h5.blk
    exact key h6 h2
/-- Within the walk over the ages: k of them. -/
structure LpK (x : FeS) (C b B0 : Nat) (w : World) (k : Nat) (a : Value) (wr : World) : Prop where
  fd : FeedAt (x.withN (LwS.upto x.s.newest x.s.nums k).nums) C b wr
  p : BlkIs #[.pointer (some ⟨C, 0, none⟩)] 24 B0 wr
  own : LossOwn (B0 + 1) a (LwS.upto x.s.newest x.s.nums k).ls wr
  kept : Kept [C] w wr
  size : B0 + 1 ≤ wr.heap.size
theorem LpK.drew {x : FeS} {C b B0 : Nat} {w : World} {k : Nat} {a : Value} {wr : World} (h : LpK x C b B0 w k a wr) (n : Nat) : LpK x C b B0 w k a (wr.drewN n) :=
  ⟨h.fd.below (bel_drewN wr n), h.p, h.own.kept (S := []) ((Kept.refl [] wr).drewN n) (fun x hx => by cases hx), h.kept.drewN n, h.size⟩
theorem LpK.same {x : FeS} {C b B0 : Nat} {w : World} {k : Nat} {a : Value} {wr : World} (h : LpK x C b B0 w k a wr) (e1 : (LwS.upto x.s.newest x.s.nums (k + 1)).nums = (LwS.upto x.s.newest x.s.nums k).nums) (e2 : (LwS.upto x.s.newest x.s.nums (k + 1)).ls = (LwS.upto x.s.newest x.s.nums k).ls) : LpK x C b B0 w (k + 1) a wr :=
  ⟨by rw [e1]; exact h.fd, h.p, by rw [e2]; exact h.own, h.kept, h.size⟩
theorem LpK.lost {x : FeS} {C b B0 : Nat} {w : World} {k : Nat} {a : Value} {wr W2 W3 : World} (h : LpK x C b B0 w k a wr) (hk : k < 250) (hC : C < B0) (hb : b < B0) (hw : w.heap.size ≤ B0) (ls : List (Nat × Int)) (q : Int)
    (e1 : (LwS.upto x.s.newest x.s.nums (k + 1)).nums = (LwS.upto x.s.newest x.s.nums k).nums.set k (2, q)) (hq : ((LwS.upto x.s.newest x.s.nums k).nums.getD k (0, 0)).2 = q) (e2 : (LwS.upto x.s.newest x.s.nums (k + 1)).ls = ls)
    (hW2 : W2 = wr.setCell ⟨C, 4 + k * 2, none⟩ (.int .i64 2)) (v' : Value) (hown : LossOwn (B0 + 1) v' ls W3) (hbel : Below (B0 + 1) W2 W3) : LpK x C b B0 w (k + 1) v' W3 := by
  have hbC : b = C ∨ b ≠ C := Decidable.em _
  have f2 : FeedAt (x.withN (LwS.upto x.s.newest x.s.nums (k + 1)).nums) C b W2 := by
    obtain ⟨cl, h1, h2⟩ := h.fd
    refine ⟨cl, ?_, ?_⟩
    · rw [hW2]
      exact h1.setState (t := (x.withN (LwS.upto x.s.newest x.s.nums (k + 1)).nums).s) k hk 2 (by show (LwS.upto x.s.newest x.s.nums (k + 1)).nums = (LwS.upto x.s.newest x.s.nums k).nums.set k (2, ((LwS.upto x.s.newest x.s.nums k).nums.getD k (0, 0)).2); rw [e1, hq]) rfl rfl
    · rcases h2 with h | ⟨h3, c, h4, h5⟩
      · exact .inl h
      · exact .inr ⟨h3, c, h4, h5.kept (S := [C]) (by rw [hW2]; exact (Kept.refl [C] wr).setCell (.inl (by simp)) _) (by simpa using h5.ne h1.blk)⟩
  have hs2 : W2.heap.size = wr.heap.size := by rw [hW2]; simp
  have hsz := h.size
  have k2 : Kept [C] w W2 := by rw [hW2]; exact h.kept.setCell (.inl (by simp)) _
  have p2 : BlkIs #[.pointer (some ⟨C, 0, none⟩)] 24 B0 W2 := by rw [hW2]; exact h.p.far (by simp; omega) _
  refine ⟨?_, (hbel.block _ (by omega)).trans p2, by rw [e2]; exact hown, ?_, Nat.le_trans (by omega) hbel.size⟩
  · obtain ⟨cl, h1, h2⟩ := f2
    refine ⟨cl, ⟨(hbel.block C (by omega)).trans h1.blk, h1.len⟩, ?_⟩
    rcases h2 with h | ⟨h3, c, h4, h5⟩
    · exact .inl h
    · obtain ⟨T, h6, h7⟩ := h5.blk
      exact .inr ⟨h3, c, h4, ⟨⟨T, (hbel.block b (by omega)).trans h6, h7⟩, h5.cap2⟩⟩
  · exact ⟨hbel.os.trans k2.os, hbel.tape.trans k2.tape, hbel.output.trans k2.output, Nat.le_trans k2.size hbel.size, fun i hi hn => (hbel.block i (by omega)).trans (k2.block i hi hn)⟩
/-- Behind so many rounds of taking. -/
structure LqK (x : FeS) (es : List (Nat × Int)) (C b B0 BX g c : Nat) (cur : Array Value) (w : World) (k : Nat) (W : World) : Prop where
  fd : ∃ b', FeedAt ((es.reverse.take k).foldl FeS.take x) C b' W ∧ (b' = b ∨ w.heap.size ≤ b')
  p : BlkIs #[.pointer (some ⟨C, 0, none⟩)] 24 B0 W
  good : GoodL BX g c es.length cur W
  kept : Kept [C, b] w W
theorem LqK.own {x : FeS} {es : List (Nat × Int)} {C b B0 BX g c : Nat} {cur : Array Value} {w : World} {k : Nat} {X Y : World} {row : Option Nat} (h : LqK x es C b B0 BX g c cur w k X) (hg : X.grownBy Y row) (hr : ∀ r, row = some r → w.heap.size ≤ r ∧ ∃ o : Obj, X.heap[r]? = some o ∧ o.isCells = false) : LqK x es C b B0 BX g c cur w k Y := by
  have hr2 := fun r e => (hr r e).2
  obtain ⟨b', h1, h2⟩ := h.fd
  exact ⟨⟨b', h1.own hg hr2, h2⟩, h.p.ownF hg hr2, ⟨h.good.box.ownF hg hr2, h.good.row.ownF hg hr2⟩, h.kept.grown hg (fun q e => .inr (hr q e).1)⟩
theorem LqK.below {x : FeS} {es : List (Nat × Int)} {C b B0 BX g c : Nat} {cur : Array Value} {w : World} {k : Nat} {X Y : World} (h : LqK x es C b B0 BX g c cur w k X) (hb : Below X.heap.size X Y) : LqK x es C b B0 BX g c cur w k Y := by
  obtain ⟨b', h1, h2⟩ := h.fd
  exact ⟨⟨b', h1.below hb, h2⟩, h.p.below hb, ⟨h.good.box.below hb, h.good.row.below hb⟩, h.kept.trans' (Kept.of_below _ hb)⟩
theorem KeepsOthers.of_kept {S : List Nat} {W W' : World} (h : Kept S W W') (hs : ∀ x ∈ S, ∃ cs T f, W.heap[x]? = some (.cells cs T f)) : KeepsOthers W W' :=
  ⟨h.size, fun k o hk ho => by
    rw [h.block k (Array.getElem?_eq_some_iff.1 hk).1 (fun hm => by
      obtain ⟨cs, T, f, e⟩ := hs k hm
      rw [e] at hk
      cases hk
      cases ho)]
    exact hk⟩
theorem FeedAt.blocks {x : FeS} {C b : Nat} {w : World} (h : FeedAt x C b w) : ∀ q ∈ [C, b], ∃ cs T f, w.heap[q]? = some (.cells cs T f) := by
  obtain ⟨cl, h1, h2⟩ := h
  intro q hq
  simp at hq
  rcases hq with rfl | rfl
  · exact ⟨_, _, _, h1.blk⟩
  · rcases h2 with ⟨_, _, rfl⟩ | ⟨_, c, _, h5⟩
    · exact ⟨_, _, _, h1.blk⟩
    · obtain ⟨T, h6, _⟩ := h5.blk
      exact ⟨_, _, _, h6⟩
theorem LqK.step {x : FeS} {es : List (Nat × Int)} {C b B0 BX g c : Nat} {cur : Array Value} {w : World} {j : Nat} {W W' : World} (h : LqK x es C b B0 BX g c cur w j W) (hj : j < es.length) {b' b2 : Nat} (hF : FeedAt ((es.reverse.take j).foldl FeS.take x) C b' W) (hb : b' = b ∨ w.heap.size ≤ b') (e : Nat × Int) (he : es.getD (es.length - 1 - j) (0, 0) = e)
    (F2 : FeedAt (((es.reverse.take j).foldl FeS.take x).take e) C b2 W') (K2 : Kept [C, b'] W W') (hb2 : b2 = b' ∨ W.heap.size ≤ b2) : LqK x es C b B0 BX g c cur w (j + 1) W' ∧ KeepsOthers W W' := by
  have hnot : ∀ {cs : Array Value} {T q : Nat}, BlkIs cs T q W → T ≠ 79 → T ≠ 22 → q ∉ [C, b'] := fun k h1 h2 => by
    have := hF.away k h1 h2
    simpa using this
  refine ⟨⟨⟨b2, ?_, ?_⟩, h.p.kept K2 (hnot h.p (by decide) (by decide)), ⟨h.good.box.kept K2 (hnot h.good.box (by decide) (by decide)), h.good.row.kept K2 (hnot h.good.row (by decide) (by decide))⟩, ?_⟩, KeepsOthers.of_kept K2 hF.blocks⟩
  · have hjr : j < es.reverse.length := by rw [List.length_reverse]; exact hj
    have e1 : es.reverse.take (j + 1) = es.reverse.take j ++ [e] := by
      rw [List.take_add_one, List.getElem?_eq_getElem hjr, List.getElem_reverse, ← he, List.getD_eq_getElem?_getD, List.getElem?_eq_getElem (by omega)]
      rfl
    rw [e1, List.foldl_append]
    exact F2
  · have := h.kept.size
    omega
  · refine h.kept.trans K2 (fun q hq => ?_)
    simp at hq
    rcases hq with rfl | rfl
    · exact .inl (by simp)
    · rcases hb with rfl | hb
      · exact .inl (by simp)
      · exact .inr hb
end Go.Proofs.YtbiglbclifbmhaaGreatDoor

namespace Go.Proofs.YtbiglbclifbmhaaGreatDoor
open Go.ChangeShapes Go.WideShapes Go.ChangeAt Go.RowKit Go.Shelf
attribute [local go_sem] Oper.semAt_some
set_option linter.unusedVariables false
set_option linter.unusedSimpArgs false

theorem LwS.up_got {y : Nat} {L : List (Int × Int)} {k : Nat} {q : Int} (h : L.getD k (0, 0) = (1, q)) : LwS.upto y L (k + 1) = ⟨(LwS.upto y L k).f + 1, q, (LwS.upto y L k).ls, (LwS.upto y L k).nums⟩ := by
  have e := LwS.upto_high y L k k (Nat.le_refl _)
  rw [h] at e
  show (LwS.upto y L k).step y k = _
  unfold LwS.step
  rw [e, if_pos rfl]
theorem LwS.up_lost {y : Nat} {L : List (Int × Int)} {k : Nat} {q : Int} (h : L.getD k (0, 0) = (0, q)) (h3 : 3 ≤ (LwS.upto y L k).f) : LwS.upto y L (k + 1) = ⟨(LwS.upto y L k).f, (LwS.upto y L k).t, (LwS.upto y L k).ls ++ [(ageN y k, (LwS.upto y L k).t)], (LwS.upto y L k).nums.set k (2, q)⟩ := by
  have e := LwS.upto_high y L k k (Nat.le_refl _)
  rw [h] at e
  show (LwS.upto y L k).step y k = _
  unfold LwS.step
  rw [e, if_neg (by simp), if_pos ⟨rfl, h3⟩]
theorem LwS.up_skip {y : Nat} {L : List (Int × Int)} {k : Nat} {p q : Int} (h : L.getD k (0, 0) = (p, q)) (h1 : p ≠ 1) (h3 : ¬ (p = 0 ∧ 3 ≤ (LwS.upto y L k).f)) : LwS.upto y L (k + 1) = LwS.upto y L k := by
  have e := LwS.upto_high y L k k (Nat.le_refl _)
  rw [h] at e
  show (LwS.upto y L k).step y k = _
  unfold LwS.step
  rw [e, if_neg h1, if_neg h3]
set_option maxRecDepth 100000 in
set_option maxHeartbeats 4000000 in
theorem feedLose_all (x : FeS) {K : Nat} (hx : x.Ok K) (hK : K ≤ 100000000) (hti : timesOk x.s.nums) (hnew : x.s.newest < 281474976710656) (sp : Nat) (hsp : x.s.span = (sp : Int)) (hsp2 : sp ≤ 250) (C b : Nat) (w : World) (h : FeedAt x C b w) :
    Calls Tryz.prog 43 #[.pointer (some ⟨C, 0, none⟩)] w fun e w' => e = .returned (.tuple #[]) ∧ ∃ b', FeedAt (x.lose sp) C b' w' ∧ Kept [C, b] w w' ∧ (b' = b ∨ w.heap.size ≤ b') := by
  obtain ⟨B, hB⟩ : ∃ B, w.heap.size = B := ⟨_, rfl⟩
  have hlt := h.lt
  rw [hB] at hlt
  obtain ⟨W1, hW1⟩ : ∃ W1, W1 = w.alloc (.cells #[.pointer (some ⟨C, 0, none⟩)] 24) := ⟨_, rfl⟩
  have hb1 : Below w.heap.size w W1 := by rw [hW1]; exact bel_alloc _ _
  have p1 : BlkIs #[.pointer (some ⟨C, 0, none⟩)] 24 B W1 := by rw [hW1, ← hB]; exact BlkIs.new _ _ _
  have s1 : W1.heap.size = B + 1 := by rw [hW1, World.size_alloc, hB]
  have f1 := h.below hb1
  have HI0 : Hid (LpK x C b B w 0 (.slice none 0 0) W1) := Lib.hid ⟨f1, p1, LossOwn.nil _ _, Kept.of_below _ hb1, by omega⟩
  have b2 : W1.cell? ⟨C, 504, none⟩ = some (.int .i64 (sp : Int)) := by
    obtain ⟨cl, h1, _⟩ := f1
    rw [h1.tail.1, hsp]
  have b3 : W1.cell? ⟨B, 0, none⟩ = some (.pointer (some ⟨C, 0, none⟩)) := p1.cell 0
  obtain ⟨y, hy⟩ : ∃ y, x.s.newest = y := ⟨_, rfl⟩
  obtain ⟨L, hLL⟩ : ∃ L, x.s.nums = L := ⟨_, rfl⟩
  have HU := Lib.hid (fun k => LwS.upto_ok y L (by rw [← hLL]; exact hti) k)
  have HFEW := Lib.hid (LwS.upto_few y L)
  have HYE := Lib.hid hy
  have HLE := Lib.hid hLL
  have HBE := Lib.hid hB
  have HX := Lib.hid hx
  have HSP := Lib.hid hsp
  have HLT := Lib.hid hlt
  have HAD : Hid (∀ k : Nat, k < 250 → ∀ W, Calls Tryz.prog 76 #[.int .u64 y, .int .i64 (-(k : Int))] W fun e w' => e = .returned (.int .u64 (ageN y k : Nat)) ∧ W = w') := Lib.hid (fun k hk W => by
    have h9 := seqAdd_any y (-(k : Int)) (by omega) (by omega) (by omega) W
    rw [ageN_step y k (by omega)] at h9
    exact h9)
  clear h hx hti hnew hsp hlt hb1 p1 f1 hy hLL
  refine (callsIn_wide (n := 9)).1 ?_
  refine callsIn_of_wp_marks Tryz.func43 rfl trivial ?_ rfl
  simp only [Tryz.ntmps43, List.size_toArray, List.length_cons, List.length_nil, Nat.reduceAdd, Nat.reduceSub, Array.replicate_succ, Array.replicate_zero, List.push_toArray, List.append_toArray, List.nil_append, List.cons_append]
  rw [hW1] at b2 b3
  rw [hB]
  gi_wp2
  rw [← hW1] at b2 b3 ⊢
  clear hW1 b2 s1
  gi_loopw [2, 3, 4, 13] (fun a f t i wr => ∃ k : Nat, k ≤ sp ∧ i = .int .i64 (k : Int) ∧ f = .int .i64 ((LwS.upto y L k).f : Nat) ∧ t = .int .i64 (LwS.upto y L k).t ∧ Hid (LpK x C b B w k a wr)) (fun _ _ _ i _ => sp - (intOf i).toNat)
  case atStart => exact ⟨0, by omega, rfl, rfl, rfl, HI0⟩
  case round =>
    obtain ⟨k, hk, rfl, rfl, rfl, hin⟩ := hrel
    clear b3
    have b3 : wr.cell? ⟨B, 0, none⟩ = some (.pointer (some ⟨C, 0, none⟩)) := hin.out.p.cell 0
    by_cases hk0 : k < sp
    · have hfew := HFEW.out k
      have hhi := LwS.upto_high y L k k (Nat.le_refl _)
      obtain ⟨r, hr⟩ : ∃ r, L.getD k (0, 0) = r := ⟨_, rfl⟩
      obtain ⟨rs, ra⟩ := r
      rw [hr] at hhi
      have HR := Lib.hid hr
      have HHI := Lib.hid hhi
      obtain ⟨x0, x1, f0⟩ : wr.cell? ⟨C, 4 + k * 2, none⟩ = some (.int .i64 rs) ∧ wr.cell? ⟨C, 4 + k * 2 + 1, none⟩ = some (.int .i64 ra) ∧ wr.frozen? ⟨C, 4 + k * 2, none⟩ = false := by
        obtain ⟨cl, h1, _⟩ := hin.out.fd
        have h2 := h1.num k (by omega)
        rw [show (x.withN (LwS.upto x.s.newest x.s.nums k).nums).s.nums = (LwS.upto y L k).nums by rw [HYE.out, HLE.out]; rfl, HHI.out] at h2
        exact ⟨h2.1, h2.2, h1.blk.free _⟩
      obtain ⟨G, hG⟩ : ∃ G, (LwS.upto y L k).f = G := ⟨_, rfl⟩
      obtain ⟨T, hT⟩ : ∃ T, (LwS.upto y L k).t = T := ⟨_, rfl⟩
      obtain ⟨Z, hZ⟩ : ∃ Z, (LwS.upto y L k).ls = Z := ⟨_, rfl⟩
      have HG := Lib.hid hG
      have HT := Lib.hid hT
      have HZ := Lib.hid hZ
      rw [hG, hT]
      rw [hG, hZ] at hfew
      have hG2 : G ≤ 250 := by omega
      have HZL : Hid (Z.length ≤ 250) := Lib.hid (by omega)
      have b4 : wr.cell? ⟨C, 3, none⟩ = some (.int .u64 y) := by
        obtain ⟨cl, h1, _⟩ := hin.out.fd
        rw [h1.head.2.2.2, ← HYE.out]
        rfl
      clear hr hhi hG hT hZ hfew
      by_cases h1 : rs = 1
      · subst h1
        have HJ : Hid (∀ n, LpK x C b B w (k + 1) u2 (wr.drewN n)) := Lib.hid (fun n => (hin.out.same (by rw [HYE.out, HLE.out, LwS.up_got HR.out]) (by rw [HYE.out, HLE.out, LwS.up_got HR.out])).drew n)
        have HJf : Hid ((LwS.upto y L (k + 1)).f = G + 1 ∧ (LwS.upto y L (k + 1)).t = ra) := Lib.hid ⟨by rw [LwS.up_got HR.out, ← HG.out], by rw [LwS.up_got HR.out]⟩
        gi_wp2
        gi_region
        all_goals
          gi_wp2
          go_roundw
          case rel => exact ⟨k + 1, by omega, by go_num, by rw [HJf.out.1]; go_num, by rw [HJf.out.2], Lib.hid (by first | exact HJ.out 1 | exact HJ.out 2 | exact HJ.out 0)⟩
          case measure => simp [intOf]; omega
      · have h1b : (rs == 1) = false := by rw [beq_eq_false_iff_ne]; exact h1
        by_cases h2 : rs = 0 ∧ 3 ≤ G
        · obtain ⟨rfl, h3⟩ := h2
          have i1 : decide ((3 : Int) ≤ (G : Int)) = true := decide_eq_true (by omega)
          have i2 : (3 : Int) ≤ (G : Int) := by omega
          have i4 : IntKind.i64.wrap (-(k : Int)) = -(k : Int) := by rw [IntKind.wrap_i64]; omega
          have HUP := Lib.hid (LwS.up_lost (y := y) HR.out (by rw [HG.out]; exact h3))
          have HAK := Lib.hid (HAD.out k (by omega))
          obtain ⟨WX, hWX⟩ : ∃ WX, wr.setCell ⟨C, 4 + k * 2, none⟩ (.int .i64 2) = WX := ⟨_, rfl⟩
          have hCB := HLT.out.1
          have g3 : (wr.setCell ⟨C, 4 + k * 2, none⟩ (.int .i64 2)).cell? ⟨B, 0, none⟩ = some (.pointer (some ⟨C, 0, none⟩)) := (hin.out.p.far (by simp; omega) _).cell 0
          have g4 : (wr.setCell ⟨C, 4 + k * 2, none⟩ (.int .i64 2)).cell? ⟨C, 3, none⟩ = some (.int .u64 y) := by
            rw [World.cell?_setCell_other (h := by intro e; injection e with _ e _; omega)]
            exact b4
          have HOX : Hid (LossOwn (B + 1) u2 Z WX) := Lib.hid (by
            have h9 := hin.out.own
            rw [HYE.out, HLE.out, HZ.out] at h9
            rw [← hWX]
            exact h9.kept (S := [C]) ((Kept.refl [C] wr).setCell (.inl (by simp)) _) (fun x hx => by simp at hx; omega))
          have hsX : WX.heap.size = wr.heap.size := by rw [← hWX]; simp
          have HSX : Hid (B + 1 ≤ WX.heap.size) := Lib.hid (by have := hin.out.size; omega)
          have HWX := Lib.hid hWX
          have HSE := Lib.hid hsX
          generalize hAG : ageN y k = AG at *
          have HAG := Lib.hid hAG
          clear hWX hsX hAG
          gi_wp2_with (first
            | (refine ⟨trivial, ?_⟩; gi_at_call 76; (refine ((callsIn_wide (n := 8)).2 (HAK.out _)).mono ?_); rintro e w1 ⟨rfl, rfl⟩)
            | (refine wp_l_in rfl _ _ rfl (B + 1) u2 Z rfl WX _ (AG, T) (by rw [← HWX.out]) HOX.out HSX.out _ (by rw [HSE.out]) rfl (by have := HZL.out; omega) ?_; intro v9 w9 hown9 hb9))
          go_roundw
          case rel => exact ⟨k + 1, by omega, by go_num, by rw [HUP.out]; exact congrArg (fun q : Nat => Value.int .i64 (q : Int)) HG.out.symm, by rw [HUP.out]; exact congrArg (fun q : Int => Value.int .i64 q) HT.out.symm, Lib.hid (hin.out.lost (by omega) HLT.out.1 HLT.out.2 (Nat.le_of_eq HBE.out) (Z ++ [(AG, T)]) ra (by rw [HYE.out, HLE.out, HUP.out]) (by rw [HYE.out, HLE.out, HHI.out]) (by rw [HYE.out, HLE.out, HUP.out]; simp only; rw [HZ.out, HT.out]) HWX.out.symm v9 hown9 hb9)⟩
          case measure => simp [intOf]; omega
        · have HUP := Lib.hid (LwS.up_skip (y := y) HR.out h1 (by rw [HG.out]; exact h2))
          have HJ : Hid (LpK x C b B w (k + 1) u2 wr) := Lib.hid (hin.out.same (by rw [HYE.out, HLE.out, HUP.out]) (by rw [HYE.out, HLE.out, HUP.out]))
          by_cases h0 : rs = 0
          · subst h0
            have i1 : decide ((3 : Int) ≤ (G : Int)) = false := decide_eq_false (by omega)
            have i2 : ¬ (3 : Int) ≤ (G : Int) := by omega
            clear h2 h1
            gi_wp2
            go_roundw
            case rel => exact ⟨k + 1, by omega, by go_num, by rw [HUP.out]; exact congrArg (fun q : Nat => Value.int .i64 (q : Int)) HG.out.symm, by rw [HUP.out]; exact congrArg (fun q : Int => Value.int .i64 q) HT.out.symm, HJ⟩
            case measure => simp [intOf]; omega
          · have h2b : (rs == 0) = false := by rw [beq_eq_false_iff_ne]; exact h0
            clear h2
            gi_wp2
            go_roundw
            case rel => exact ⟨k + 1, by omega, by go_num, by rw [HUP.out]; exact congrArg (fun q : Nat => Value.int .i64 (q : Int)) HG.out.symm, by rw [HUP.out]; exact congrArg (fun q : Int => Value.int .i64 q) HT.out.symm, HJ⟩
            case measure => simp [intOf]; omega
    · obtain rfl : k = sp := by omega
      clear hk hk0 b3
      obtain ⟨ls, hls⟩ : ∃ ls, (LwS.upto y L k).ls = ls := ⟨_, rfl⟩
      have hown : LossOwn (B + 1) u2 ls wr := by
        have h9 := hin.out.own
        rw [HYE.out, HLE.out, hls] at h9
        exact h9
      have HLS := Lib.hid hls
      obtain ⟨x1, hx1⟩ : ∃ x1, x.withN (LwS.upto y L k).nums = x1 := ⟨_, rfl⟩
      have HX1 : Hid (FeedAt x1 C b wr) := Lib.hid (by
        have h9 := hin.out.fd
        rw [HYE.out, HLE.out, hx1] at h9
        exact h9)
      have HLO : Hid (x.lose k = ls.reverse.foldl FeS.take x1) := Lib.hid (by
        unfold FeS.lose
        rw [HYE.out, HLE.out, hls, ← hx1]
        rfl)
      have HOK : Hid (x1.Ok K) := Lib.hid (by
        rw [← hx1]
        have h := HX.out
        exact ⟨h.first, h.en, h.eat, h.round, h.lost, h.ll, h.lv⟩)
      have HLV : Hid (∀ e ∈ ls, e.1 < 281474976710656 ∧ timeOk e.2) := Lib.hid (by rw [← hls]; exact (HU.out k).2.2)
      have hLl : ls.length ≤ 250 := by have := (HFEW.out k).2; rw [hls] at this; omega
      have HSZ : Hid (B + 1 ≤ wr.heap.size) := Lib.hid hin.out.size
      clear hls hx1
      by_cases hN : ls = []
      · subst hN
        obtain rfl := hown.2 rfl
        have HW2 := Lib.hid hin.out.kept
        clear hown
        gi_wp2_with (refine ⟨trivial, ?_⟩; gi_at_call 77; refine (backL_in Fence.wide _ trivial rfl _ _ _ _).mono ?_; rintro e w2 ⟨rfl, rfl⟩)
        have hbx := BlkIs.cell (BlkIs.new #[.slice none 0 0] 126 wr) 0
        have HW3 : Hid (Below wr.heap.size wr (wr.alloc (.cells #[.slice none 0 0] 126))) := Lib.hid (bel_alloc _ _)
        refine wpIn_rangeFunc_ownF rfl (by decide) (gf := 106) (lb := #[.pointer (some ⟨wr.heap.size, 0, none⟩)]) rfl trivial (enters_of Tryz.func106 (by kernel_rfl) rfl)
          (backL_stops Fence.wide 8 trivial rfl wr.heap.size 0 none _ (by simp) hbx (fun _ _ => True)) (fun _ _ => trivial) (fun _ _ _ _ _ _ _ _ => trivial) (Below.refl _ _) (fun x => x.elim)
          (fun _ W => Below wr.heap.size wr W) (fun _ _ _ => False) (ownFrom_below (Nat.le_refl _) HW3.out.size) (fun _ _ _ _ _ hs _ _ => hs) HW3.out (fun x => x.elim) ?assign ?body ?done ?stop
        case assign => intro l x; exact x.elim
        case body => intro l pre x; exact x.elim
        case done =>
          rintro D ys W hD rfl hB hK
          gi_wp2
          refine ⟨by simp, .inl ⟨_, _, rfl, run_takeDeferred hK, ?_⟩⟩
          refine ⟨_, results_none rfl _ _ _, rfl, b, ?_, ?_, .inl rfl⟩
          · rw [HLO.out]
            exact HX1.out.below (hB.trans (belowK_b (w := wr) (Nat.le_refl _) W D _ _ (Nat.le_trans HW3.out.size hD) hK rfl rfl))
          · exact (HW2.out.more (fun x hx => by simp at hx; simp [hx])).trans' (Kept.of_below _ (hB.trans (belowK_b (w := wr) (Nat.le_refl _) W D _ _ (Nat.le_trans HW3.out.size hD) hK rfl rfl)))
        case stop =>
          rintro D c pre W _ _ h _
          exact h.elim
      · have hN0 : 0 < ls.length := by
          rcases ls with _ | ⟨a, l⟩
          · exact absurd rfl hN
          · simp
        rcases hown.1.2 with ⟨e0, h0⟩ | ⟨g, cap, cur, e0, hBg, hg, hcap, hcm, hcs, htk⟩
        · omega
        subst e0
        have hc2 : cap ≤ 9223372036854775807 := by unfold maxLen at hcm; omega
        have hcur : ∀ i, i < ls.length → cur[i * 2]? = some (.int .u64 (ls.getD i (0, 0)).1) ∧ cur[i * 2 + 1]? = some (.int .i64 (ls.getD i (0, 0)).2) := fun i hi => by
          obtain ⟨z1, z2⟩ := lossList_get ls i hi
          rw [← htk] at z1 z2
          rw [List.getElem?_take_of_lt (by omega), Array.getElem?_toList] at z1
          rw [List.getElem?_take_of_lt (by omega), Array.getElem?_toList] at z2
          exact ⟨z1, z2⟩
        obtain ⟨BX, hBX⟩ : ∃ BX, wr.heap.size = BX := ⟨_, rfl⟩
        obtain ⟨W2, hW2⟩ : ∃ W2, W2 = wr.alloc (.cells #[.slice (some ⟨g, 0, none⟩) ls.length cap] 126) := ⟨_, rfl⟩
        have hgl : g < wr.heap.size := (Array.getElem?_eq_some_iff.1 hg).1
        have hgood : GoodL BX g cap ls.length cur W2 := by
          rw [hW2, ← hBX]
          exact ⟨BlkIs.new _ _ _, BlkIs.alloc (show BlkIs cur 77 g wr from hg) _⟩
        have HJ0 : Hid (LqK x1 ls C b B BX g cap cur w 0 W2) := Lib.hid ⟨⟨b, by rw [hW2]; exact HX1.out.below (bel_alloc _ _), .inl rfl⟩, by rw [hW2]; exact hin.out.p.alloc _, hgood, by rw [hW2]; exact (hin.out.kept.more (fun x hx => by simp at hx; simp [hx])).alloc _⟩
        have hsz2 : W2.heap.size = BX + 1 := by rw [hW2, World.size_alloc, hBX]
        have HGX : Hid (g < BX ∧ w.heap.size ≤ BX) := Lib.hid ⟨by omega, by have := HSZ.out; have := HBE.out; omega⟩
        have HSQ : Hid (RoundsOf Fence.wide 8 Tryz.prog 106 #[.pointer (some ⟨BX, 0, none⟩)] (seesL ls) (KpL BX g cap ls.length cur) ls.length W2) := Lib.hid (backQ_rounds Fence.wide 8 trivial rfl (by decide) BX g cap ls cur hcur (by omega) W2 hgood hcap hc2)
        have HW2 := Lib.hid hW2
        have HBXe := Lib.hid hBX
        have HS2 := Lib.hid hsz2
        clear hown hcap hcm hcs htk hg hBg hc2 hcur hgood hgl hN hW2 hBX hsz2
        gi_wp2_with (refine ⟨trivial, ?_⟩; gi_at_call 77; refine (backL_in Fence.wide _ trivial rfl _ _ _ _).mono ?_; rintro e w2 ⟨rfl, rfl⟩)
        rw [HBXe.out, ← HW2.out]
        clear hin HSZ HW2
        refine wpIn_rangeFunc_rounds rfl (by decide) (gf := 106) (lb := #[.pointer (some ⟨BX, 0, none⟩)]) rfl trivial (enters_of Tryz.func106 (by kernel_rfl) rfl)
          HSQ.out (fun h k => KpL.trans h k) (fun W l o o' hl ho hc hw => ?kb) (Below.refl _ _) (fun k W vs h => ?vsz)
          (LqK x1 ls C b B BX g cap cur w) (fun s X Y row hs hg hr => ?own) HJ0.out
          (fun i vs a' W => ∃ b6, BlkIs #[.int .u64 (ls.getD (ls.length - 1 - i) (0, 0)).1, .int .i64 (ls.getD (ls.length - 1 - i) (0, 0)).2] 77 b6 W ∧ a' = { tmps := #[.pointer (some ⟨C, 0, none⟩), .pointer (some ⟨B, 0, none⟩), .slice (some ⟨g, 0, none⟩) ls.length cap, .int .i64 ((LwS.upto y L k).f : Nat), .int .i64 (LwS.upto y L k).t, u5, u6, undef, .pointer (some ⟨b6, 0, none⟩), .pointer (some ⟨C, 0, none⟩), .pointer (some ⟨C, 0, none⟩), .pointer (some ⟨C, 504, none⟩), .int .i64 (k : Int), .int .i64 (k : Int), .bool false, u15, u16, u17, u18, u19, u20, u21, u22, u23, u24, u25, u26, u27, u28, u29, u30, u31, u32, u33, u34, u35, u36, u37, u38, u39, u40, u41, u42, u43, u44, u45, u46, u47, u48, u49, u50, u51, u52, u53, u54, u55, u56, u57, u58, .slice (some ⟨g, 0, none⟩) ls.length cap, .func (.func 106) #[] #[.pointer (some ⟨BX, 0, none⟩)], .int .i64 ((ls.length - 1 - i : Nat) : Int), .agg #[.int .u64 (ls.getD (ls.length - 1 - i) (0, 0)).1, .int .i64 (ls.getD (ls.length - 1 - i) (0, 0)).2], undef, undef, undef], defers := [] })
          (fun k vs a' _ X Y row hs hg hr => by obtain ⟨b6, h1, h2⟩ := hs; exact ⟨b6, h1.ownF hg (fun r e => (hr r e).2), h2⟩)
          ?assign ?body ?done
        case kb => exact KpL.put W l o' (by have := HS2.out; omega) (by have := HS2.out; have := HGX.out.1; omega)
        case vsz =>
          rw [h]
          rfl
        case own => exact hs.own hg (fun r e => by have h1 := hr r e; exact ⟨by have := h1.1; have := HS2.out; have := HGX.out.2; omega, h1.2⟩)
        case assign =>
          rintro l j vs W K' hI hj rfl hK
          have HI := Lib.hid hI
          have HK := Lib.hid hK
          clear hI hK
          generalize ls.getD (ls.length - 1 - j) (0, 0) = e at *
          obtain ⟨en, et⟩ := e
          gi_wp2
          exact HK.out _ _ ((KeepsOthers.alloc _ _).from _) (fun _ => (HI.out.below (bel_alloc _ _)).good) (HI.out.below (bel_alloc _ _)) ⟨W.heap.size, BlkIs.new _ _ _, rfl⟩
        case body =>
          rintro l j vs a' W hl ⟨r, hr⟩ hI hj ⟨b6, hx6, rfl⟩
          obtain ⟨e, he⟩ : ∃ e, ls.getD (ls.length - 1 - j) (0, 0) = e := ⟨_, rfl⟩
          have hel : e ∈ ls := by
            rw [← he, List.getD_eq_getElem?_getD, List.getElem?_eq_getElem (by omega)]
            exact List.getElem_mem _
          have hev := HLV.out e hel
          obtain ⟨b', hF, hb'⟩ := hI.fd
          have hokj := FeS.Ok.takes HOK.out (ls.reverse.take j) (fun q hq => HLV.out q (List.mem_reverse.1 (List.mem_of_mem_take hq)))
          have hTK := feedTake_any _ hokj (by have : (ls.reverse.take j).length ≤ ls.length := by { rw [List.length_take, List.length_reverse]; omega }; omega) e.1 e.2 hev.1 hev.2 C b' W hF
          have HTK : Hid (Calls Tryz.prog 78 #[.pointer (some ⟨C, 0, none⟩), .agg #[.int .u64 e.1, .int .i64 e.2]] W fun e w' => e = .returned (.tuple #[]) ∧ LqK x1 ls C b B BX g cap cur w (j + 1) w' ∧ KeepsOthers W w') := Lib.hid (by
            refine hTK.mono ?_
            rintro e' w' ⟨rfl, b2, g1, g2, g3⟩
            exact ⟨rfl, hI.step hj hF hb' e he g1 g2 g3⟩)
          have c0 : W.cell? ⟨B, 0, none⟩ = some (.pointer (some ⟨C, 0, none⟩)) := hI.p.cell 0
          rw [he] at hx6
          have c1 : W.cell? ⟨b6, 0, none⟩ = some (.int .u64 e.1) := hx6.cell 0
          have c2 : W.cell? ⟨b6, 1, none⟩ = some (.int .i64 e.2) := hx6.cell 1
          clear hI hr hx6 hokj hTK hF hb' hel hev HSQ HJ0 HX1 HLO HLS HU HFEW HAD HI0
          rw [he]
          clear he
          obtain ⟨en, et⟩ := e
          simp only at c1 c2 HTK
          gi_wp2_with (refine ⟨trivial, ?_⟩; gi_at_call 78; refine (CallsIn.inRound l (callsIn_wide.2 HTK.out)).mono ?_; rintro e5 w5 ⟨rfl, hj5, ho5⟩)
          exact ⟨ho5.from _, fun _ => hj5.good, hj5⟩
        case done =>
          rintro D W hD hI hK
          have HI := Lib.hid hI
          clear hI
          gi_wp2
          refine ⟨by simp, .inl ⟨_, _, rfl, run_takeDeferred hK, ?_⟩⟩
          have h9 := fun o => HI.out.own (grownBy_putObj' W D o) (fun r e => by cases e; exact ⟨by have := HS2.out; have := HGX.out.2; omega, ⟨_, hK, rfl⟩⟩)
          refine ⟨_, results_none rfl _ _ _, rfl, ?_⟩
          obtain ⟨b', q1, q2⟩ := (h9 _).fd
          rw [show ls.reverse.take ls.length = ls.reverse by rw [← List.length_reverse, List.take_length]] at q1
          refine ⟨b', ?_, (h9 _).kept, by have := HBE.out; rcases q2 with q2 | q2; exact .inl q2; exact .inr (by omega)⟩
          rw [HLO.out]
          exact q1
end Go.Proofs.YtbiglbclifbmhaaGreatDoor

namespace Go.Proofs.YtbiglbclifbmhaaGreatDoor
open Go.ChangeShapes Go.WideShapes Go.ChangeAt Go.RowKit
set_option linter.unusedVariables false
set_option linter.unusedSimpArgs false

set_option maxHeartbeats 4000000 in
theorem feedPut_no (s : FdS) (N : Int) (cl : Value) (now : Int) (hN : max s.now (min now 4611686018427387904) = N) (n a sp : Nat) (ha : a < 250) (hsp : s.span = (sp : Int)) (hsp1 : 1 ≤ sp)
    (hd : ∀ W, Calls Tryz.prog 41 #[.int .u64 s.newest, .int .u64 n] W fun e w' => e = .returned (.int .i64 (a : Int)) ∧ W = w')
    (hm : (s.nums.getD a (0, 0)).1 = 1) (sz : Int) (C : Nat) (w : World) (h : FdAt s cl C w) :
    Calls Tryz.prog 7 #[.pointer (some ⟨C, 0, none⟩), .int .i64 now, .int .u64 n, .int .i64 sz] w fun e w' => e = .returned (.bool false) ∧ FdAt { s with now := N } cl C w' ∧ Kept [C] w w' := by
  have HP := Lib.hid (feedPass_any s cl now C w h)
  rw [hN] at HP
  have HD := Lib.hid hd
  have HM := Lib.hid hm
  have hs0 : ¬ s.span = 0 := by omega
  have hsb : (s.span == 0) = false := by rw [beq_eq_false_iff_ne]; exact hs0
  clear h hd hN hm
  go_enter Tryz.func7, Tryz.ntmps7
  go_upto_region 4 with (go_at_call 40; (with_reducible refine HP.out.mono ?_); rintro e W1 ⟨rfl, h1, hk1⟩)
  have a5 := h1.tail.1
  have a3 := h1.head.2.2.2
  simp only at a5 a3
  have b4 := (h1.num a ha).1
  simp only at b4
  rw [HM.out] at b4
  have H1 := Lib.hid h1
  have HK1 := Lib.hid hk1
  clear h1 hk1
  have i0 : decide ((a : Int) < 0) = false := decide_eq_false (by omega)
  have i1 : ¬ (a : Int) < 0 := by omega
  have i3 : decide ((250 : Int) ≤ (a : Int)) = false := decide_eq_false (by omega)
  have i4 : ¬ 250 ≤ a := by omega
  go_wp2_with (go_at_call 41; (with_reducible refine (HD.out _).mono ?_); rintro e w1 ⟨rfl, rfl⟩)
  go_ret
  exact ⟨rfl, H1.out, HK1.out⟩
set_option maxRecDepth 100000 in
set_option maxHeartbeats 4000000 in
theorem feedIntervals_none (s : FdS) (C : Nat) (w : World) (h : FdAt s (.slice none 0 0) C w) :
    Calls Tryz.prog 9 #[.pointer (some ⟨C, 0, none⟩)] w fun e w' => e = .returned (.tuple #[.int .u64 0, .slice none 0 0]) ∧ ∃ n, w' = w.drewN n := by
  have a8 := h.tail.2.2.2.2.1
  have HO := Lib.hid (fun n => feedOpen_none s none 0 C (w.drewN n) (h.below (bel_drewN w n)))
  have HC : Hid (∀ W, Calls Tryz.prog 45 #[.slice none 0 0] W fun e w' => e = .returned (.slice none 0 0) ∧ w' = W) := Lib.hid (fun W => by
    have hE : ∀ w : World, (binOp .eql 28 (.slice none 0 0) (.slice none 0 0)).run Tryz.prog w = .ok (.bool true) w := fun w => Lib.run_eql_slice_nil w 28 22 none 0 0 0 0 (by rfl)
    go_enter Tryz.func45, Tryz.ntmps45
    go_wp2
    go_ret
    exact ⟨rfl, rfl⟩)
  clear h
  go_enter Tryz.func9, Tryz.ntmps9
  go_wp2
  go_quiet ((first
    | (go_at_call 44; exact Calls.quiet_of_same (HO.out _))
    | (go_at_call 45; exact Calls.quiet_of_same (HC.out _))))
  go_wp2
  go_ret2
  exact ⟨rfl, _, rfl⟩
/-- The number i steps on. -/
def nF (first i : Nat) : Nat := (first + i) % 281474976710656
theorem nF_step (first i : Nat) : stepI first (i : Int) = (nF first i : Int) := by unfold stepI nF; omega
theorem nF_lt (first i : Nat) : nF first i < 281474976710656 := Nat.mod_lt _ (by decide)
theorem nF_diff (first i j : Nat) (hi : i ≤ 1000) (hj : j ≤ 1000) : diffI (nF first i) (nF first j) = (i : Int) - (j : Int) := by unfold diffI nF; omega
/-- m numbers up to the newest; with a hole the one behind the newest is not there. -/
structure FnG (first m : Nat) (hole : Bool) (T : Int) (By : Nat) (s : FdS) : Prop where
  span : s.span = (m : Int)
  new : s.newest = nF first (m - 1)
  now : s.now ≤ T
  since : s.since = 0
  bytes : s.bytes = By
  nums : ∀ k, k < m → (s.nums.getD k (0, 0)).1 = if hole = true ∧ k = 1 then 0 else 1
  lost : s.lost = 0
theorem diffF (first i j : Nat) (d : Int) (hi : i ≤ 1000) (hj : j ≤ 1000) (hd : (i : Int) - (j : Int) = d) (W : World) : Calls Tryz.prog 41 #[.int .u64 (nF first i), .int .u64 (nF first j)] W fun e w' => e = .returned (.int .i64 d) ∧ W = w' := by
  have h := seqDiff_any (nF first i) (nF first j) (by have := nF_lt first i; omega) (by have := nF_lt first j; omega) W
  rw [nF_diff first i j hi hj, hd] at h
  exact h
theorem fnFirst (first sz : Nat) (hsz : sz ≤ 65535) (C : Nat) (w : World) (h : FdAt (FdS.fresh 1000) (.slice none 0 0) C w) :
    Calls Tryz.prog 7 #[.pointer (some ⟨C, 0, none⟩), .int .i64 0, .int .u64 (nF first 0), .int .i64 sz] w fun e w' => e = .returned (.bool true) ∧ ∃ s', FnG first 1 false 0 sz s' ∧ FdAt s' (.slice none 0 0) C w' ∧ Kept [C] w w' := by
  refine (feedPut_first (FdS.fresh 1000) rfl (List.replicate 249 (0, 0)) rfl 0 0 (by decide) (nF first 0) (fun W => diffF first 0 0 0 (by decide) (by decide) rfl W) sz hsz (by decide) _ C w h).mono ?_
  rintro e w' ⟨rfl, h3, h4⟩
  refine ⟨rfl, _, ⟨rfl, rfl, Int.le_refl _, rfl, by show 0 + sz = sz; omega, fun k hk => ?_, rfl⟩, h3, h4⟩
  obtain rfl : k = 0 := by omega
  rfl
theorem fnLead {first m : Nat} {T : Int} {By : Nat} {s : FdS} (h : FnG first m false T By s) (step : Nat) (hst : step = 1 ∨ step = 2) (hm : 1 ≤ m) (hm2 : m ≤ 100) (hBy : By ≤ 1000000) (T2 : Int) (hT : T ≤ T2) (h0 : 0 ≤ T2) (h2 : T2 ≤ 1000000) (sz : Nat) (hsz : sz ≤ 65535) (C : Nat) (w : World) (hf : FdAt s (.slice none 0 0) C w) :
    Calls Tryz.prog 7 #[.pointer (some ⟨C, 0, none⟩), .int .i64 T2, .int .u64 (nF first (m - 1 + step)), .int .i64 sz] w fun e w' => e = .returned (.bool true) ∧ ∃ s', FnG first (m + step) (decide (step = 2)) T2 (By + sz) s' ∧ FdAt s' (.slice none 0 0) C w' ∧ Kept [C] w w' := by
  have hnow := h.now
  obtain ⟨s1, hs1⟩ : ∃ s1, FdS.leadN { s with now := T2 } (nF first (m - 1 + step)) step ((m + step : Nat) : Int) = s1 := ⟨_, rfl⟩
  have hn1 : s1.nums = List.replicate step (0, 0) ++ s.nums.take (250 - step) := by rw [← hs1]; rfl
  have hlen := hf.len
  have hget : ∀ j, j < m + step → ((s1.nums.set 0 (1, T2)).getD j (0, 0)).1 = if decide (step = 2) = true ∧ j = 1 then 0 else 1 := fun j hj => by
    rw [hn1, List.getD_eq_getElem?_getD, List.getElem?_set]
    by_cases hj0 : 0 = j
    · subst hj0
      rw [if_pos rfl, if_pos (by simp; omega), if_neg (by omega)]
      rfl
    · rw [if_neg hj0]
      by_cases hjs : j < step
      · rw [List.getElem?_append_left (by simpa using hjs), List.getElem?_replicate, if_pos hjs, if_pos ⟨by simp; omega, by omega⟩]
        rfl
      · rw [List.getElem?_append_right (by simpa using hjs), List.length_replicate, List.getElem?_take, if_pos (by omega), ← List.getD_eq_getElem?_getD, h.nums (j - step) (by omega), if_neg (by simp), if_neg (by simp; omega)]
  have hyb := nF_lt first (m - 1 + step)
  refine (feedPut_lead s T2 _ T2 (by omega) (nF first (m - 1 + step)) (y := nF first (m - 1 + step)) step step m (m + step) (by omega) (by omega) (by omega) h.span hm (by omega) (by omega) (fun W => ?_) (fun W => ?_) s1 hs1 (fun k hk hz => ?_) sz hsz (by rw [h.bytes]; omega) C w hf).mono ?_
  · have h9 := seqAdd_any s.newest step (by rw [h.new]; have := nF_lt first (m - 1); omega) (by omega) (by omega) W
    rw [h.new] at h9 ⊢
    rw [show stepI (nF first (m - 1) : Int) (step : Int) = (nF first (m - 1 + step) : Int) by unfold stepI nF; omega] at h9
    exact h9
  · rw [h.new]
    exact diffF first (m - 1) (m - 1 + step) _ (by omega) (by omega) (by omega) W
  · rw [hget k hk] at hz
    have hk1 : k = 1 := by
      by_cases h9 : decide (step = 2) = true ∧ k = 1
      · exact h9.2
      · rw [if_neg h9] at hz; cases hz
    have := gotN_le (s1.nums.set 0 (1, T2)) k
    omega
  · rintro e w' ⟨rfl, h3, h4⟩
    refine ⟨rfl, _, ⟨?_, ?_, Int.le_refl _, ?_, ?_, hget, ?_⟩, h3, h4⟩
    · show s1.span = _; rw [← hs1]; rfl
    · show s1.newest = _; rw [← hs1]; show nF first (m - 1 + step) = nF first (m + step - 1); rw [show m - 1 + step = m + step - 1 by omega]
    · show s1.since = 0; rw [← hs1]; exact h.since
    · show s1.bytes + sz = _; rw [← hs1]; show s.bytes + sz = _; rw [h.bytes]
    · show s1.lost = 0; rw [← hs1]; exact h.lost
theorem fnFill {first m : Nat} {T : Int} {By : Nat} {s : FdS} (h : FnG first m true T By s) (hm : 2 ≤ m) (hm2 : m ≤ 100) (hBy : By ≤ 1000000) (T2 : Int) (hT : T ≤ T2) (h0 : 0 ≤ T2) (h2 : T2 ≤ 1000000) (sz : Nat) (hsz : sz ≤ 65535) (C : Nat) (w : World) (hf : FdAt s (.slice none 0 0) C w) :
    Calls Tryz.prog 7 #[.pointer (some ⟨C, 0, none⟩), .int .i64 T2, .int .u64 (nF first (m - 2)), .int .i64 sz] w fun e w' => e = .returned (.bool true) ∧ ∃ s', FnG first m false T2 (By + sz) s' ∧ FdAt s' (.slice none 0 0) C w' ∧ Kept [C] w w' := by
  have hnow := h.now
  have hlen := hf.len
  obtain ⟨s1, hs1⟩ : ∃ s1, ({ s with now := T2 } : FdS) = s1 := ⟨_, rfl⟩
  have hn1 : s1.nums = s.nums := by rw [← hs1]
  have hget : ∀ j, j < m → ((s1.nums.set 1 (1, T2)).getD j (0, 0)).1 = 1 := fun j hj => by
    rw [hn1, List.getD_eq_getElem?_getD, List.getElem?_set]
    by_cases hj0 : 1 = j
    · subst hj0
      rw [if_pos rfl, if_pos (by omega)]
      rfl
    · rw [if_neg hj0, ← List.getD_eq_getElem?_getD, h.nums j hj, if_neg (by omega)]
  refine (feedPut_fill s T2 _ T2 (by omega) (nF first (m - 2)) m 1 (by decide) h.span (by omega) (by omega) (fun W => ?_) s1 hs1 (by rw [hn1, h.nums 1 (by omega), if_pos ⟨rfl, rfl⟩]) (fun k hk hz => by rw [hget k hk] at hz; cases hz) sz hsz (by rw [h.bytes]; omega) C w hf).mono ?_
  · rw [h.new]
    exact diffF first (m - 1) (m - 2) _ (by omega) (by omega) (by omega) W
  · rintro e w' ⟨rfl, h3, h4⟩
    refine ⟨rfl, _, ⟨?_, ?_, Int.le_refl _, ?_, ?_, fun j hj => ?_, ?_⟩, h3, h4⟩
    · show s1.span = _; rw [← hs1]; exact h.span
    · show s1.newest = _; rw [← hs1]; exact h.new
    · show s1.since = 0; rw [← hs1]; exact h.since
    · show s1.bytes + sz = _; rw [← hs1]; show s.bytes + sz = _; rw [h.bytes]
    · rw [if_neg (by simp)]; exact hget j hj
    · show s1.lost = 0; rw [← hs1]; exact h.lost
theorem fnNo {first m : Nat} {hole : Bool} {T : Int} {By : Nat} {s : FdS} (h : FnG first m hole T By s) (a : Nat) (ha : a < m) (hh : ¬ (hole = true ∧ a = 1)) (hm2 : m ≤ 100) (T2 : Int) (hT : T ≤ T2) (h2 : T2 ≤ 1000000) (sz : Int) (C : Nat) (w : World) (hf : FdAt s (.slice none 0 0) C w) :
    Calls Tryz.prog 7 #[.pointer (some ⟨C, 0, none⟩), .int .i64 T2, .int .u64 (nF first (m - 1 - a)), .int .i64 sz] w fun e w' => e = .returned (.bool false) ∧ ∃ s', FnG first m hole T2 By s' ∧ FdAt s' (.slice none 0 0) C w' ∧ Kept [C] w w' := by
  have hnow := h.now
  refine (feedPut_no s T2 _ T2 (by omega) (nF first (m - 1 - a)) a m (by omega) h.span (by omega) (fun W => by
    rw [h.new]
    exact diffF first (m - 1) (m - 1 - a) _ (by omega) (by omega) (by omega) W) (by rw [h.nums a ha, if_neg hh]) sz C w hf).mono ?_
  rintro e w' ⟨rfl, h3, h4⟩
  exact ⟨rfl, { s with now := T2 }, ⟨h.span, h.new, Int.le_refl _, h.since, h.bytes, h.nums, h.lost⟩, h3, h4⟩
/-- The place of number j in its turn: some neighbours have changed places. -/
def pS (sw : Nat → Bool) (j : Nat) : Nat := if j % 2 = 1 then (if sw j = true then j + 1 else j) else if 1 ≤ j ∧ sw (j - 1) = true then j - 1 else j
/-- Behind j numbers. -/
def FnSt (first : Nat) (sw : Nat → Bool) (j : Nat) (T : Int) (s : FdS) : Prop :=
  (j = 0 ∧ T = 0 ∧ s = FdS.fresh 1000) ∨ (1 ≤ j ∧ ¬ (j % 2 = 0 ∧ sw (j - 1) = true) ∧ FnG first j false T (100 * j) s) ∨ (2 ≤ j ∧ j % 2 = 0 ∧ sw (j - 1) = true ∧ FnG first (j + 1) true T (100 * j) s)
theorem fnStep1 {first j : Nat} {sw : Nat → Bool} {T : Int} {s : FdS} (h : FnSt first sw j T s) (hj : j ≤ 90) (T2 : Int) (hT : T ≤ T2) (hz : j = 0 → T2 = 0) (h0 : 0 ≤ T2) (h2 : T2 ≤ 1000000) (C : Nat) (w : World) (hf : FdAt s (.slice none 0 0) C w) :
    Calls Tryz.prog 7 #[.pointer (some ⟨C, 0, none⟩), .int .i64 T2, .int .u64 (nF first (pS sw j)), .int .i64 100] w fun e w' => e = .returned (.bool true) ∧ ∃ s', FnSt first sw (j + 1) T2 s' ∧ FdAt s' (.slice none 0 0) C w' ∧ Kept [C] w w' := by
  rcases h with ⟨rfl, _, rfl⟩ | ⟨h1, h3, h4⟩ | ⟨h1, h3, h5, h4⟩
  · rw [hz rfl, show pS sw 0 = 0 by unfold pS; simp]
    refine (fnFirst first 100 (by decide) C w hf).mono ?_
    rintro e w' ⟨rfl, s', g1, g2, g3⟩
    exact ⟨rfl, s', .inr (.inl ⟨Nat.le_refl _, by omega, g1⟩), g2, g3⟩
  · by_cases hs : j % 2 = 1 ∧ sw j = true
    · rw [show pS sw j = j - 1 + 2 by unfold pS; rw [if_pos hs.1, if_pos hs.2]; omega]
      refine (fnLead h4 2 (.inr rfl) h1 (by omega) (by omega) T2 hT h0 h2 100 (by decide) C w hf).mono ?_
      rintro e w' ⟨rfl, s', g1, g2, g3⟩
      exact ⟨rfl, s', .inr (.inr ⟨by omega, by omega, hs.2, by rw [show 100 * (j + 1) = 100 * j + 100 by omega]; exact g1⟩), g2, g3⟩
    · have hp : pS sw j = j - 1 + 1 := by
        unfold pS
        by_cases ho : j % 2 = 1
        · rw [if_pos ho, if_neg (fun e => hs ⟨ho, e⟩)]; omega
        · rw [if_neg ho, if_neg (fun e => h3 ⟨by omega, e.2⟩)]; omega
      rw [hp]
      refine (fnLead h4 1 (.inl rfl) h1 (by omega) (by omega) T2 hT h0 h2 100 (by decide) C w hf).mono ?_
      rintro e w' ⟨rfl, s', g1, g2, g3⟩
      exact ⟨rfl, s', .inr (.inl ⟨by omega, fun e => hs ⟨by omega, e.2⟩, by rw [show 100 * (j + 1) = 100 * j + 100 by omega]; exact g1⟩), g2, g3⟩
  · rw [show pS sw j = j + 1 - 2 by unfold pS; rw [if_neg (by omega), if_pos ⟨by omega, h5⟩]; omega]
    refine (fnFill h4 (by omega) (by omega) (by omega) T2 hT h0 h2 100 (by decide) C w hf).mono ?_
    rintro e w' ⟨rfl, s', g1, g2, g3⟩
    exact ⟨rfl, s', .inr (.inl ⟨by omega, by omega, by rw [show 100 * (j + 1) = 100 * j + 100 by omega]; exact g1⟩), g2, g3⟩
theorem fnStep2 {first j : Nat} {sw : Nat → Bool} {T : Int} {s : FdS} (h : FnSt first sw (j + 1) T s) (hj : j ≤ 90) (T2 : Int) (hT : T ≤ T2) (h2 : T2 ≤ 1000000) (C : Nat) (w : World) (hf : FdAt s (.slice none 0 0) C w) :
    Calls Tryz.prog 7 #[.pointer (some ⟨C, 0, none⟩), .int .i64 T2, .int .u64 (nF first (pS sw j)), .int .i64 100] w fun e w' => e = .returned (.bool false) ∧ ∃ s', FnSt first sw (j + 1) T2 s' ∧ FdAt s' (.slice none 0 0) C w' ∧ Kept [C] w w' := by
  rcases h with ⟨h1, _⟩ | ⟨h1, h3, h4⟩ | ⟨h1, h3, h5, h4⟩
  · omega
  · by_cases hs : j % 2 = 0 ∧ 1 ≤ j ∧ sw (j - 1) = true
    · rw [show pS sw j = j + 1 - 1 - 1 by unfold pS; rw [if_neg (by omega), if_pos ⟨hs.2.1, hs.2.2⟩]; omega]
      refine (fnNo h4 1 (by omega) (by simp) (by omega) T2 hT h2 100 C w hf).mono ?_
      rintro e w' ⟨rfl, s', g1, g2, g3⟩
      exact ⟨rfl, s', .inr (.inl ⟨h1, h3, g1⟩), g2, g3⟩
    · have hp : pS sw j = j + 1 - 1 - 0 := by
        unfold pS
        by_cases ho : j % 2 = 1
        · rw [if_pos ho, if_neg (fun e => h3 ⟨by omega, by simpa using e⟩)]; omega
        · rw [if_neg ho, if_neg (fun e => hs ⟨by omega, e.1, e.2⟩)]; omega
      rw [hp]
      refine (fnNo h4 0 (by omega) (by simp) (by omega) T2 hT h2 100 C w hf).mono ?_
      rintro e w' ⟨rfl, s', g1, g2, g3⟩
      exact ⟨rfl, s', .inr (.inl ⟨h1, h3, g1⟩), g2, g3⟩
  · have hp : pS sw j = j + 1 + 1 - 1 - 0 := by
      unfold pS
      rw [if_pos (by omega), if_pos (by simpa using h5)]
      omega
    rw [hp]
    refine (fnNo h4 0 (by omega) (by simp) (by omega) T2 hT h2 100 C w hf).mono ?_
    rintro e w' ⟨rfl, s', g1, g2, g3⟩
    exact ⟨rfl, s', .inr (.inr ⟨h1, h3, h5, g1⟩), g2, g3⟩
end Go.Proofs.YtbiglbclifbmhaaGreatDoor

namespace Go.Proofs.YtbiglbclifbmhaaGreatDoor
open Go.ChangeShapes Go.WideShapes Go.ChangeAt Go.RowKit
set_option linter.unusedVariables false
set_option linter.unusedSimpArgs false

set_option maxRecDepth 100000 in
set_option maxHeartbeats 4000000 in
theorem putA_first (s : FdS) (hsp : s.span = 0) (rest : List (Int × Int)) (hnum : s.nums = (0, 0) :: rest) (now : Int) (N : Int) (hN : max s.now (min now 4611686018427387904) = N) (n : Nat) (hd : ∀ w, Calls Tryz.prog 41 #[.int .u64 n, .int .u64 n] w fun e w' => e = .returned (.int .i64 0) ∧ w = w')
    (Z : Int) (sz : Nat) (hz : min (max Z 0) 65535 = (sz : Int)) (hby : s.bytes ≤ 1099511627776) (cl : Value) (l : List Nat) {K : Nat} (hok : FeS.Ok ⟨s, l⟩ K) (hKK : K ≤ 100000000) (hti : timesOk s.nums) (hNt : timeOk N) (hn : n < 281474976710656) (hnw : s.newest < 281474976710656) (C b : Nat) (w : World) (h : FdAt s cl C w) (hcl : ClosAt l cl C b w) :
    Calls Tryz.prog 7 #[.pointer (some ⟨C, 0, none⟩), .int .i64 now, .int .u64 n, .int .i64 Z] w fun e w' => e = .returned (.bool true) ∧ ∃ b', FeedAt (FeS.lose ⟨s.put1 N n rest sz, l⟩ 1) C b' w' ∧ Kept [C, b] w w' ∧ (b' = b ∨ w.heap.size ≤ b') := by
  have HCL := Lib.hid hcl
  have HOK := Lib.hid hok
  have HTI := Lib.hid hti
  have HNT := Lib.hid hNt
  have HFB := Lib.hid h.blk
  have HNB := Lib.hid hn
  clear hcl hok hti hNt hn
  have HP := Lib.hid (feedPass_any s cl now C w h)
  rw [hN] at HP
  have HD := Lib.hid hd
  clear h hd hN
  go_enter Tryz.func7, Tryz.ntmps7
  go_upto_region 4 with (go_at_call 40; (with_reducible refine HP.out.mono ?_); rintro e W1 ⟨rfl, h1, hk1⟩)
  have a1 := h1.head.2.1
  have a2 := h1.head.2.2.1
  have a3 := h1.head.2.2.2
  have a5 := h1.tail.1
  have a10 := h1.tail.2.2.2.2.2.2
  simp only at a1 a2 a3 a5 a10
  rw [hsp] at a5
  have f2 := h1.blk.free 2
  have f3 := h1.blk.free 3
  have f5 := h1.blk.free 504
  have f10 := h1.blk.free 510
  go_upto_region 6 with fail
  obtain ⟨W2, hW2⟩ : ∃ W2, (((W1.setCell ⟨C, 2, none⟩ (.int .u64 n)).setCell ⟨C, 3, none⟩ (.int .u64 n)).setCell ⟨C, 504, none⟩ (.int .i64 1)).setCell ⟨C, 510, none⟩ (.int .i64 N) = W2 := ⟨_, rfl⟩
  have h2 : FdAt { s with now := N, first := n, newest := n, span := 1, since := N } cl C W2 := by
    rw [← hW2]
    exact (((h1.setHead (t := { s with now := N, first := n }) 2 (by decide) _ rfl rfl rfl).setHead (t := { s with now := N, first := n, newest := n }) 3 (by decide) _ rfl rfl rfl).setTail (t := { s with now := N, first := n, newest := n, span := 1 }) (cl' := cl) 0 (by decide) _ rfl rfl rfl).setTail (cl' := cl) 6 (by decide) _ rfl rfl rfl
  have hk2 : Kept [C] w W2 := by rw [← hW2]; exact (((hk1.setCell (.inl (by simp)) _).setCell (.inl (by simp)) _).setCell (.inl (by simp)) _).setCell (.inl (by simp)) _
  rw [hW2]
  clear hW2 a1 a2 a3 a5 a10 f2 f3 f5 f10 h1 hk1
  have b3 := h2.head.2.2.2
  have b4 := (h2.num 0 (by decide)).1
  have b1 := h2.head.2.1
  rw [show ({ s with now := N, first := n, newest := n, span := 1, since := N } : FdS).nums = (0, 0) :: rest from hnum] at b4
  simp only [Nat.zero_mul, Nat.add_zero, List.getD_cons_zero] at b3 b4 b1
  have b5 := (h2.num 0 (by decide)).2
  simp only [Nat.zero_mul, Nat.add_zero, Nat.reduceAdd] at b5
  have g4 := h2.blk.free 4
  have g5 := h2.blk.free 5
  have H2 := Lib.hid h2
  have HK2 := Lib.hid hk2
  clear h2 hk2
  go_upto_region 12 with (go_at_call 41; (with_reducible refine (HD.out _).mono ?_); rintro e w1 ⟨rfl, rfl⟩)
  go_region
  obtain ⟨W3, hW3⟩ : ∃ W3, ((W2.setCell ⟨C, 4, none⟩ (.int .i64 1)).setCell ⟨C, 5, none⟩ (.int .i64 N)).drew = W3 := ⟨_, rfl⟩
  have h3 : FdAt { s with now := N, first := n, newest := n, span := 1, since := N, nums := (1, N) :: rest } cl C W3 := by
    rw [← hW3]
    exact (FdAt.setNum0 (t := { s with now := N, first := n, newest := n, span := 1, since := N, nums := (1, N) :: rest }) H2.out (0, 0) (1, N) rest hnum rfl rfl rfl).below ⟨rfl, rfl, rfl, Nat.le_refl _, fun _ _ => rfl⟩
  have hk3 : Kept [C] w W3 := by rw [← hW3]; exact ((HK2.out.setCell (.inl (by simp)) _).setCell (.inl (by simp)) _).drew
  rw [hW3]
  clear hW3 b3 b4 b1 b5 g4 g5 H2 HK2
  have d9 := h3.tail.2.2.2.2.2.1
  simp only at d9
  have g9 := h3.blk.free 509
  obtain ⟨M, hM⟩ : ∃ M, max Z 0 = M := ⟨_, rfl⟩
  rw [hM] at hz
  obtain ⟨i1, i3, _, hM0, _⟩ := mxi Z 0 M hM
  obtain ⟨i2, i4, hsM, hszi, _⟩ := mni M 65535 sz hz
  clear hM hz
  obtain ⟨Z, hZ⟩ : ∃ Z, s.bytes + sz = Z := ⟨_, rfl⟩
  have j1 : (s.bytes : Int) + (sz : Int) = (Z : Int) := by omega
  have j2 : (Z : Int) ≤ 1099511693311 := by omega
  have HZ := Lib.hid hZ
  have H3 := Lib.hid h3
  have HK3 := Lib.hid hk3
  clear hZ h3 hk3
  go_upto_region 14 with fail
  obtain ⟨W4, hW4⟩ : ∃ W4, W3.setCell ⟨C, 509, none⟩ (.int .u64 Z) = W4 := ⟨_, rfl⟩
  have h4 : FdAt (s.put1 N n rest sz) cl C W4 := by
    rw [← hW4]
    exact H3.out.setTail (t := s.put1 N n rest sz) (cl' := cl) 5 (by decide) _ rfl rfl (by unfold FdS.put1; rw [HZ.out]; rfl)
  have hk4 : Kept [C] w W4 := by rw [← hW4]; exact HK3.out.setCell (.inl (by simp)) _
  have HL : Hid (Calls Tryz.prog 43 #[.pointer (some ⟨C, 0, none⟩)] W4 fun e w' => e = .returned (.tuple #[]) ∧ ∃ b', FeedAt (FeS.lose ⟨s.put1 N n rest sz, l⟩ 1) C b' w' ∧ Kept [C, b] w w' ∧ (b' = b ∨ w.heap.size ≤ b')) := Lib.hid (by
    have hc4 : ClosAt l cl C b W4 := HCL.out.kept (S := [C]) hk4 (by
      by_cases e : b = C
      · exact .inl e
      · exact .inr (by simpa using e)) (fun {_} h0 => by
        rcases HCL.out with ⟨h9, _⟩ | ⟨_, c, _, h9⟩
        · exact absurd h9 h0
        · exact h9.ne HFB.out)
    refine (feedLose_all ⟨s.put1 N n rest sz, l⟩ (K := K) (by have h := HOK.out; exact ⟨HNB.out, h.en, h.eat, h.round, h.lost, h.ll, h.lv⟩) hKK (by
      intro p hp
      rcases List.mem_cons.1 hp with h1 | h1
      · rw [h1]; exact HNT.out
      · exact HTI.out p (by rw [hnum]; exact List.mem_cons_of_mem _ h1)) HNB.out 1 rfl (by decide) C b W4 ⟨cl, h4, hc4⟩).mono ?_
    rintro e w' ⟨rfl, b', q1, q2, q3⟩
    refine ⟨rfl, b', q1, (hk4.more (fun x hx => by simp at hx; simp [hx])).trans' q2, ?_⟩
    rcases q3 with q3 | q3
    · exact .inl q3
    · exact .inr (Nat.le_trans hk4.size q3))
  rw [hW4]
  clear hW4 d9 g9 i1 i2 i3 i4 h4 hk4
  go_wp2_with (go_at_call 43; (with_reducible refine HL.out.mono ?_); rintro e W5 ⟨rfl, b', q1, q2, q3⟩)
  go_ret
  exact ⟨rfl, b', q1, q2, q3⟩
set_option maxRecDepth 100000 in
set_option maxHeartbeats 4000000 in
theorem putA_lead (s : FdS) (N : Int) (cl : Value) (now : Int) (hN : max s.now (min now 4611686018427387904) = N) (n : Nat) (step k y sp0 sp : Nat) (g1 : 1 ≤ step) (g2 : step ≤ 140737488355328) (g3 : min step 250 = k) (g4 : s.span = (sp0 : Int)) (g5 : 1 ≤ sp0) (g5b : sp0 ≤ 250) (g6 : min (sp0 + k) 250 = sp)
    (hyb : y < 281474976710656) (g7 : ∀ W, Calls Tryz.prog 76 #[.int .u64 s.newest, .int .i64 step] W fun e w' => e = .returned (.int .u64 y) ∧ W = w')
    (hd : ∀ W, Calls Tryz.prog 41 #[.int .u64 s.newest, .int .u64 n] W fun e w' => e = .returned (.int .i64 (-(step : Int))) ∧ W = w')
    (s1 : FdS) (hs1 : FdS.leadN { s with now := N } y k sp = s1)
    (Z : Int) (sz : Nat) (hz : min (max Z 0) 65535 = (sz : Int)) (hby : s.bytes ≤ 1099511627776) (l : List Nat) {K : Nat} (hok : FeS.Ok ⟨s, l⟩ K) (hKK : K ≤ 100000000) (hti : timesOk s.nums) (hNt : timeOk N) (hn : n < 281474976710656) (hnw : s.newest < 281474976710656) (C b : Nat) (w : World) (h : FdAt s cl C w) (hcl : ClosAt l cl C b w) :
    Calls Tryz.prog 7 #[.pointer (some ⟨C, 0, none⟩), .int .i64 now, .int .u64 n, .int .i64 Z] w fun e w' => e = .returned (.bool true) ∧ ∃ b', FeedAt (FeS.lose ⟨s1.putN N 0 sz, l⟩ sp) C b' w' ∧ Kept [C, b] w w' ∧ (b' = b ∨ w.heap.size ≤ b') := by
  have HCL := Lib.hid hcl
  have HOK := Lib.hid hok
  have HTI := Lib.hid hti
  have HNT := Lib.hid hNt
  have HYB : Hid (y < 281474976710656) := Lib.hid hyb
  have HFB := Lib.hid h.blk
  clear hcl hok hti hNt hyb
  have HP := Lib.hid (feedPass_any s cl now C w h)
  rw [hN] at HP
  have HD := Lib.hid hd
  have hsp2 : sp ≤ 250 := by omega
  have hsi : s1.span = (sp : Int) := by rw [← hs1]; rfl
  have hby1 : s1.bytes = s.bytes := by rw [← hs1]; rfl
  have hnow : s1.now = N := by rw [← hs1]; rfl
  have hm : (s1.nums.getD 0 (0, 0)).1 = 0 := by
    rw [← hs1]
    show ((List.replicate k ((0 : Int), (0 : Int)) ++ s.nums.take (250 - k)).getD 0 (0, 0)).1 = 0
    obtain ⟨k2, rfl⟩ : ∃ k2, k = k2 + 1 := ⟨k - 1, by omega⟩
    rfl
  have HL0 : Hid (∀ W, FdAt { s with now := N } cl C W → Calls Tryz.prog 42 #[.pointer (some ⟨C, 0, none⟩), .int .i64 step] W fun e w' => e = .returned (.tuple #[]) ∧ FdAt s1 cl C w' ∧ Kept [C] W w') := Lib.hid (fun W hW => by
    have h9 := feedLead_any { s with now := N } cl step k y g1 (by omega) g3 sp0 sp g4 g5b g6 g7 C W hW
    rw [hs1] at h9
    exact h9)
  have hs0 : ¬ s.span = 0 := by omega
  clear g7
  have HSI := Lib.hid hsi
  have HNW := Lib.hid hnow
  have HBY := Lib.hid hby1
  have HM := Lib.hid hm
  have hsb : (s.span == 0) = false := by rw [beq_eq_false_iff_ne]; exact hs0
  have HS1 := Lib.hid hs1
  clear h hd hN hsi hby1 hnow hm hs1
  go_enter Tryz.func7, Tryz.ntmps7
  go_upto_region 4 with (go_at_call 40; (with_reducible refine HP.out.mono ?_); rintro e W1 ⟨rfl, h1, hk1⟩)
  have a5 := h1.tail.1
  have a3 := h1.head.2.2.2
  simp only at a5 a3
  have H1 := Lib.hid h1
  have HK1 := Lib.hid hk1
  clear h1 hk1
  go_upto_region 7 with (go_at_call 41; (with_reducible refine (HD.out _).mono ?_); rintro e w1 ⟨rfl, rfl⟩)
  have i0 : decide (-(step : Int) < 0) = true := decide_eq_true (by omega)
  have i1 : -(step : Int) < 0 := by omega
  have i2 : IntKind.i64.wrap (step : Int) = (step : Int) := by rw [IntKind.wrap_i64]; omega
  have i3 : IntKind.i64.wrap (-(-(step : Int))) = (step : Int) := by rw [Int.neg_neg]; exact i2
  clear a3 a5
  go_upto_region 10 with (go_at_call 42; (with_reducible refine (HL0.out _ H1.out).mono ?_); rintro e W3 ⟨rfl, h3, hk3⟩)
  have hk4 := HK1.out.trans' hk3
  clear hk3 H1 HK1 HL0 i0 i1 i2 i3
  have b4 := (h3.num 0 (by omega)).1
  rw [HM.out] at b4
  simp only [Nat.zero_mul, Nat.add_zero] at b4
  have b5 := (h3.num 0 (by decide)).2
  simp only [Nat.zero_mul, Nat.add_zero, Nat.reduceAdd] at b5
  have b1 := h3.head.2.1
  rw [HNW.out] at b1
  have g4' := h3.blk.free (4)
  have g5' := h3.blk.free (5)
  have H3 := Lib.hid h3
  have HK4 := Lib.hid hk4
  clear h3 hk4
  go_upto_region 12 with fail
  go_region
  obtain ⟨W5, hW5⟩ : ∃ W5, ((W3.setCell ⟨C, 4, none⟩ (.int .i64 1)).setCell ⟨C, 5, none⟩ (.int .i64 N)).drew = W5 := ⟨_, rfl⟩
  have h5 : FdAt { s1 with nums := s1.nums.set 0 (1, N) } cl C W5 := by
    rw [← hW5]
    exact (FdAt.setNum (t := { s1 with nums := s1.nums.set 0 (1, N) }) H3.out 0 (by omega) (1, N) rfl rfl rfl).below ⟨rfl, rfl, rfl, Nat.le_refl _, fun _ _ => rfl⟩
  have hk5 : Kept [C] w W5 := by rw [← hW5]; exact ((HK4.out.setCell (.inl (by simp)) _).setCell (.inl (by simp)) _).drew
  rw [hW5]
  clear hW5 b4 b5 b1 g4' g5' H3 HK4
  have d9 := h5.tail.2.2.2.2.2.1
  simp only at d9
  rw [HBY.out] at d9
  have g9 := h5.blk.free 509
  obtain ⟨M, hM⟩ : ∃ M, max Z 0 = M := ⟨_, rfl⟩
  rw [hM] at hz
  obtain ⟨i1, i3, _, hM0, _⟩ := mxi Z 0 M hM
  obtain ⟨i2, i4, hsM, hszi, _⟩ := mni M 65535 sz hz
  clear hM hz
  obtain ⟨Z, hZ⟩ : ∃ Z, s.bytes + sz = Z := ⟨_, rfl⟩
  have j1 : (s.bytes : Int) + (sz : Int) = (Z : Int) := by omega
  have j2 : (Z : Int) ≤ 1099511693311 := by omega
  have HZ := Lib.hid hZ
  have H5 := Lib.hid h5
  have HK5 := Lib.hid hk5
  clear hZ h5 hk5
  go_upto_region 14 with fail
  obtain ⟨W6, hW6⟩ : ∃ W6, W5.setCell ⟨C, 509, none⟩ (.int .u64 Z) = W6 := ⟨_, rfl⟩
  have h6 : FdAt (s1.putN N 0 sz) cl C W6 := by
    rw [← hW6]
    exact H5.out.setTail (t := s1.putN N 0 sz) (cl' := cl) 5 (by decide) _ (by unfold FdS.putN fdHead; rw [HNW.out]) rfl (by unfold FdS.putN; rw [HBY.out, HZ.out]; rfl)
  have hk6 : Kept [C] w W6 := by rw [← hW6]; exact HK5.out.setCell (.inl (by simp)) _
  have HL : Hid (Calls Tryz.prog 43 #[.pointer (some ⟨C, 0, none⟩)] W6 fun e w' => e = .returned (.tuple #[]) ∧ ∃ b', FeedAt (FeS.lose ⟨s1.putN N 0 sz, l⟩ sp) C b' w' ∧ Kept [C, b] w w' ∧ (b' = b ∨ w.heap.size ≤ b')) := Lib.hid (by
    have hc6 : ClosAt l cl C b W6 := HCL.out.kept (S := [C]) hk6 (by
      by_cases e : b = C
      · exact .inl e
      · exact .inr (by simpa using e)) (fun {_} h0 => by
        rcases HCL.out with ⟨h9, _⟩ | ⟨_, c, _, h9⟩
        · exact absurd h9 h0
        · exact h9.ne HFB.out)
    refine (feedLose_all ⟨s1.putN N 0 sz, l⟩ (K := K) (by rw [← HS1.out]; have h := HOK.out; exact ⟨h.first, h.en, h.eat, h.round, h.lost, h.ll, h.lv⟩) hKK (by
      refine timesOk.set ?_ 0 (1, N) HNT.out
      rw [← HS1.out]
      intro p hp
      rcases List.mem_append.1 hp with h1 | h1
      · rw [(List.mem_replicate.1 h1).2]; exact ⟨by decide, by decide⟩
      · exact HTI.out p (List.mem_of_mem_take h1)) (by rw [← HS1.out]; exact HYB.out) sp HSI.out hsp2 C b W6 ⟨cl, h6, hc6⟩).mono ?_
    rintro e w' ⟨rfl, b', q1, q2, q3⟩
    refine ⟨rfl, b', q1, (hk6.more (fun x hx => by simp at hx; simp [hx])).trans' q2, ?_⟩
    rcases q3 with q3 | q3
    · exact .inl q3
    · exact .inr (Nat.le_trans hk6.size q3))
  rw [hW6]
  clear hW6 d9 g9 i1 i2 i3 i4 h6 hk6
  go_wp2_with (go_at_call 43; (with_reducible refine HL.out.mono ?_); rintro e W7 ⟨rfl, b', q1, q2, q3⟩)
  go_ret
  exact ⟨rfl, b', q1, q2, q3⟩
set_option maxRecDepth 100000 in
set_option maxHeartbeats 4000000 in
theorem putA_fill (s : FdS) (N : Int) (cl : Value) (now : Int) (hN : max s.now (min now 4611686018427387904) = N) (n : Nat) (sp a : Nat) (ha : a < 250) (hsp : s.span = (sp : Int)) (hsp1 : 1 ≤ sp) (hsp2 : sp ≤ 250)
    (hd : ∀ W, Calls Tryz.prog 41 #[.int .u64 s.newest, .int .u64 n] W fun e w' => e = .returned (.int .i64 (a : Int)) ∧ W = w')
    (s1 : FdS) (hs1 : { s with now := N } = s1) (hm : (s1.nums.getD a (0, 0)).1 = 0)
    (Z : Int) (sz : Nat) (hz : min (max Z 0) 65535 = (sz : Int)) (hby : s.bytes ≤ 1099511627776) (l : List Nat) {K : Nat} (hok : FeS.Ok ⟨s, l⟩ K) (hKK : K ≤ 100000000) (hti : timesOk s.nums) (hNt : timeOk N) (hn : n < 281474976710656) (hnw : s.newest < 281474976710656) (C b : Nat) (w : World) (h : FdAt s cl C w) (hcl : ClosAt l cl C b w) :
    Calls Tryz.prog 7 #[.pointer (some ⟨C, 0, none⟩), .int .i64 now, .int .u64 n, .int .i64 Z] w fun e w' => e = .returned (.bool true) ∧ ∃ b', FeedAt (FeS.lose ⟨s1.putN N a sz, l⟩ sp) C b' w' ∧ Kept [C, b] w w' ∧ (b' = b ∨ w.heap.size ≤ b') := by
  have HCL := Lib.hid hcl
  have HOK := Lib.hid hok
  have HTI := Lib.hid hti
  have HNT := Lib.hid hNt
  have HFB := Lib.hid h.blk
  have HNWB := Lib.hid hnw
  clear hcl hok hti hNt hnw
  have HP := Lib.hid (feedPass_any s cl now C w h)
  rw [hN] at HP
  have HD := Lib.hid hd
  have hsi : s1.span = (sp : Int) := by rw [← hs1]; exact hsp
  have hby1 : s1.bytes = s.bytes := by rw [← hs1]
  have hnow : s1.now = N := by rw [← hs1]
  have hs0 : ¬ s.span = 0 := by omega
  have HSI := Lib.hid hsi
  have HNW := Lib.hid hnow
  have HBY := Lib.hid hby1
  have HM := Lib.hid hm
  have hsb : (s.span == 0) = false := by rw [beq_eq_false_iff_ne]; exact hs0
  have HS1 := Lib.hid hs1
  clear h hd hN hsi hby1 hnow hm hs1
  go_enter Tryz.func7, Tryz.ntmps7
  go_upto_region 4 with (go_at_call 40; (with_reducible refine HP.out.mono ?_); rintro e W1 ⟨rfl, h1, hk1⟩)
  have a5 := h1.tail.1
  have a3 := h1.head.2.2.2
  simp only at a5 a3
  have H1 := Lib.hid h1
  have HK1 := Lib.hid hk1
  clear h1 hk1
  go_upto_region 7 with (go_at_call 41; (with_reducible refine (HD.out _).mono ?_); rintro e w1 ⟨rfl, rfl⟩)
  have i0 : decide ((a : Int) < 0) = false := decide_eq_false (by omega)
  have i1 : ¬ (a : Int) < 0 := by omega
  clear a3 a5
  go_upto_region 10 with fail
  have h3 : FdAt s1 cl C W1 := by rw [← HS1.out]; exact H1.out
  have hk4 := HK1.out
  clear H1 HK1 i0 i1
  have b4 := (h3.num a (by omega)).1
  rw [HM.out] at b4
  have b5 := (h3.num a (by omega)).2
  have i3 : decide ((250 : Int) ≤ (a : Int)) = false := decide_eq_false (by omega)
  have i4 : ¬ 250 ≤ a := by omega
  have b1 := h3.head.2.1
  rw [HNW.out] at b1
  have g4' := h3.blk.free (4 + a * 2)
  have g5' := h3.blk.free (4 + a * 2 + 1)
  have H3 := Lib.hid h3
  have HK4 := Lib.hid hk4
  clear h3 hk4
  go_upto_region 12 with fail
  go_region
  obtain ⟨W5, hW5⟩ : ∃ W5, ((W1.setCell ⟨C, 4 + a * 2, none⟩ (.int .i64 1)).setCell ⟨C, 4 + a * 2 + 1, none⟩ (.int .i64 N)).drew = W5 := ⟨_, rfl⟩
  have h5 : FdAt { s1 with nums := s1.nums.set a (1, N) } cl C W5 := by
    rw [← hW5]
    exact (FdAt.setNum (t := { s1 with nums := s1.nums.set a (1, N) }) H3.out a (by omega) (1, N) rfl rfl rfl).below ⟨rfl, rfl, rfl, Nat.le_refl _, fun _ _ => rfl⟩
  have hk5 : Kept [C] w W5 := by rw [← hW5]; exact ((HK4.out.setCell (.inl (by simp)) _).setCell (.inl (by simp)) _).drew
  rw [hW5]
  clear hW5 b4 b5 b1 g4' g5' H3 HK4
  have d9 := h5.tail.2.2.2.2.2.1
  simp only at d9
  rw [HBY.out] at d9
  have g9 := h5.blk.free 509
  obtain ⟨M, hM⟩ : ∃ M, max Z 0 = M := ⟨_, rfl⟩
  rw [hM] at hz
  obtain ⟨i1, i3, _, hM0, _⟩ := mxi Z 0 M hM
  obtain ⟨i2, i4, hsM, hszi, _⟩ := mni M 65535 sz hz
  clear hM hz
  obtain ⟨Z, hZ⟩ : ∃ Z, s.bytes + sz = Z := ⟨_, rfl⟩
  have j1 : (s.bytes : Int) + (sz : Int) = (Z : Int) := by omega
  have j2 : (Z : Int) ≤ 1099511693311 := by omega
  have HZ := Lib.hid hZ
  have H5 := Lib.hid h5
  have HK5 := Lib.hid hk5
  clear hZ h5 hk5
  go_upto_region 14 with fail
  obtain ⟨W6, hW6⟩ : ∃ W6, W5.setCell ⟨C, 509, none⟩ (.int .u64 Z) = W6 := ⟨_, rfl⟩
  have h6 : FdAt (s1.putN N a sz) cl C W6 := by
    rw [← hW6]
    exact H5.out.setTail (t := s1.putN N a sz) (cl' := cl) 5 (by decide) _ (by unfold FdS.putN fdHead; rw [HNW.out]) rfl (by unfold FdS.putN; rw [HBY.out, HZ.out]; rfl)
  have hk6 : Kept [C] w W6 := by rw [← hW6]; exact HK5.out.setCell (.inl (by simp)) _
  have HL : Hid (Calls Tryz.prog 43 #[.pointer (some ⟨C, 0, none⟩)] W6 fun e w' => e = .returned (.tuple #[]) ∧ ∃ b', FeedAt (FeS.lose ⟨s1.putN N a sz, l⟩ sp) C b' w' ∧ Kept [C, b] w w' ∧ (b' = b ∨ w.heap.size ≤ b')) := Lib.hid (by
    have hc6 : ClosAt l cl C b W6 := HCL.out.kept (S := [C]) hk6 (by
      by_cases e : b = C
      · exact .inl e
      · exact .inr (by simpa using e)) (fun {_} h0 => by
        rcases HCL.out with ⟨h9, _⟩ | ⟨_, c, _, h9⟩
        · exact absurd h9 h0
        · exact h9.ne HFB.out)
    refine (feedLose_all ⟨s1.putN N a sz, l⟩ (K := K) (by rw [← HS1.out]; have h := HOK.out; exact ⟨h.first, h.en, h.eat, h.round, h.lost, h.ll, h.lv⟩) hKK (timesOk.set (by rw [← HS1.out]; exact HTI.out) a (1, N) HNT.out) (by rw [← HS1.out]; exact HNWB.out) sp HSI.out hsp2 C b W6 ⟨cl, h6, hc6⟩).mono ?_
    rintro e w' ⟨rfl, b', q1, q2, q3⟩
    refine ⟨rfl, b', q1, (hk6.more (fun x hx => by simp at hx; simp [hx])).trans' q2, ?_⟩
    rcases q3 with q3 | q3
    · exact .inl q3
    · exact .inr (Nat.le_trans hk6.size q3))
  rw [hW6]
  clear hW6 d9 g9 i1 i2 i3 i4 h6 hk6
  go_wp2_with (go_at_call 43; (with_reducible refine HL.out.mono ?_); rintro e W7 ⟨rfl, b', q1, q2, q3⟩)
  go_ret
  exact ⟨rfl, b', q1, q2, q3⟩
set_option maxRecDepth 100000 in
set_option maxHeartbeats 4000000 in
theorem putA_no (s : FdS) (N : Int) (cl : Value) (now : Int) (hN : max s.now (min now 4611686018427387904) = N) (n a sp : Nat) (ha : a < 250) (hsp : s.span = (sp : Int)) (hsp1 : 1 ≤ sp)
    (hd : ∀ W, Calls Tryz.prog 41 #[.int .u64 s.newest, .int .u64 n] W fun e w' => e = .returned (.int .i64 (a : Int)) ∧ W = w')
    (st : Int) (hm : (s.nums.getD a (0, 0)).1 = st) (hst : st ≠ 0) (sz : Int) (C : Nat) (w : World) (h : FdAt s cl C w) :
    Calls Tryz.prog 7 #[.pointer (some ⟨C, 0, none⟩), .int .i64 now, .int .u64 n, .int .i64 sz] w fun e w' => e = .returned (.bool false) ∧ FdAt { s with now := N } cl C w' ∧ Kept [C] w w' := by
  have HP := Lib.hid (feedPass_any s cl now C w h)
  rw [hN] at HP
  have HD := Lib.hid hd
  have HM := Lib.hid hm
  have hst2 : (st == 0) = false := by rw [beq_eq_false_iff_ne]; exact hst
  have hs0 : ¬ s.span = 0 := by omega
  have hsb : (s.span == 0) = false := by rw [beq_eq_false_iff_ne]; exact hs0
  clear h hd hN hm
  go_enter Tryz.func7, Tryz.ntmps7
  go_upto_region 4 with (go_at_call 40; (with_reducible refine HP.out.mono ?_); rintro e W1 ⟨rfl, h1, hk1⟩)
  have a5 := h1.tail.1
  have a3 := h1.head.2.2.2
  simp only at a5 a3
  have b4 := (h1.num a ha).1
  simp only at b4
  rw [HM.out] at b4
  have H1 := Lib.hid h1
  have HK1 := Lib.hid hk1
  clear h1 hk1
  have i0 : decide ((a : Int) < 0) = false := decide_eq_false (by omega)
  have i1 : ¬ (a : Int) < 0 := by omega
  have i3 : decide ((250 : Int) ≤ (a : Int)) = false := decide_eq_false (by omega)
  have i4 : ¬ 250 ≤ a := by omega
  go_wp2_with (go_at_call 41; (with_reducible refine (HD.out _).mono ?_); rintro e w1 ⟨rfl, rfl⟩)
  go_ret
  exact ⟨rfl, H1.out, HK1.out⟩
set_option maxRecDepth 100000 in
set_option maxHeartbeats 4000000 in
theorem putA_old (s : FdS) (N : Int) (cl : Value) (now : Int) (hN : max s.now (min now 4611686018427387904) = N) (n a sp : Nat) (ha : 250 ≤ a) (ha2 : a ≤ 281474976710656) (hsp : s.span = (sp : Int)) (hsp1 : 1 ≤ sp)
    (hd : ∀ W, Calls Tryz.prog 41 #[.int .u64 s.newest, .int .u64 n] W fun e w' => e = .returned (.int .i64 (a : Int)) ∧ W = w')
    (sz : Int) (C : Nat) (w : World) (h : FdAt s cl C w) :
    Calls Tryz.prog 7 #[.pointer (some ⟨C, 0, none⟩), .int .i64 now, .int .u64 n, .int .i64 sz] w fun e w' => e = .returned (.bool false) ∧ FdAt { s with now := N } cl C w' ∧ Kept [C] w w' := by
  have HP := Lib.hid (feedPass_any s cl now C w h)
  rw [hN] at HP
  have HD := Lib.hid hd
  have hs0 : ¬ s.span = 0 := by omega
  have hsb : (s.span == 0) = false := by rw [beq_eq_false_iff_ne]; exact hs0
  clear h hd hN
  go_enter Tryz.func7, Tryz.ntmps7
  go_upto_region 4 with (go_at_call 40; (with_reducible refine HP.out.mono ?_); rintro e W1 ⟨rfl, h1, hk1⟩)
  have a5 := h1.tail.1
  have a3 := h1.head.2.2.2
  simp only at a5 a3
  have H1 := Lib.hid h1
  have HK1 := Lib.hid hk1
  clear h1 hk1
  have i0 : decide ((a : Int) < 0) = false := decide_eq_false (by omega)
  have i1 : ¬ (a : Int) < 0 := by omega
  have i3 : decide ((250 : Int) ≤ (a : Int)) = true := decide_eq_true (by omega)
  have i4 : 250 ≤ a := by omega
  go_wp2_with (go_at_call 41; (with_reducible refine (HD.out _).mono ?_); rintro e w1 ⟨rfl, rfl⟩)
  go_ret
  exact ⟨rfl, H1.out, HK1.out⟩
end Go.Proofs.YtbiglbclifbmhaaGreatDoor

namespace Go.Proofs.YtbiglbclifbmhaaGreatDoor
open Go.ChangeShapes Go.WideShapes Go.ChangeAt Go.RowKit
set_option linter.unusedVariables false
set_option linter.unusedSimpArgs false

theorem diffI_self (n : Nat) : diffI n n = 0 := by unfold diffI; omega
theorem diffI_le (a b : Nat) : -140737488355328 ≤ diffI a b ∧ diffI a b < 140737488355328 := by unfold diffI; omega
theorem FeS.put_no (x : FeS) (N : Int) (n sz : Nat) (h0 : x.s.span ≠ 0) (hd : 0 ≤ diffI x.s.newest n) (h : 250 ≤ (diffI x.s.newest n).toNat ∨ (x.s.nums.getD (diffI x.s.newest n).toNat (0, 0)).1 ≠ 0) :
    x.put N n sz = (false, ⟨{ x.s with now := N }, x.l⟩) := by
  have e1 : x.at1 N n = { x.s with now := N } := by unfold FeS.at1; rw [if_neg h0]
  have e2 : ({ x.s with now := N } : FdS).led n = { x.s with now := N } := by unfold FdS.led; rw [if_neg (show ¬ diffI x.s.newest n < 0 by omega)]
  unfold FeS.put
  rw [e1, e2]
  exact if_pos h
theorem FeS.put_fill (x : FeS) (N : Int) (n sz a sp : Nat) (h0 : x.s.span = (sp : Int)) (h1 : sp ≠ 0) (hd : diffI x.s.newest n = (a : Int)) (ha : a < 250) (h : (x.s.nums.getD a (0, 0)).1 = 0) :
    x.put N n sz = (true, FeS.lose ⟨FdS.putN { x.s with now := N } N a sz, x.l⟩ sp) := by
  have e1 : x.at1 N n = { x.s with now := N } := by unfold FeS.at1; rw [if_neg (by omega)]
  have e2 : ({ x.s with now := N } : FdS).led n = { x.s with now := N } := by unfold FdS.led; rw [if_neg (show ¬ diffI x.s.newest n < 0 by omega)]
  have e3 : ageOf { x.s with now := N } n = a := by unfold ageOf; show (diffI x.s.newest n).toNat = a; omega
  unfold FeS.put
  rw [e1, e2, e3]
  refine (if_neg (show ¬ (250 ≤ a ∨ (x.s.nums.getD a (0, 0)).1 ≠ 0) from fun e => e.elim (by omega) (fun e => e h))).trans ?_
  show (true, FeS.lose _ x.s.span.toNat) = _
  rw [h0, Int.toNat_natCast]
theorem FeS.put_lead (x : FeS) (N : Int) (n sz sp step k y sq : Nat) (h0 : x.s.span = (sp : Int)) (h1 : sp ≠ 0) (hd : diffI x.s.newest n = -(step : Int)) (hst : 1 ≤ step) (hk : min step 250 = k) (hy : stepI x.s.newest step = (y : Int)) (hsq : min (sp + k) 250 = sq) :
    x.put N n sz = (true, FeS.lose ⟨FdS.putN (FdS.leadN { x.s with now := N } y k sq) N 0 sz, x.l⟩ sq) := by
  have e1 : x.at1 N n = { x.s with now := N } := by unfold FeS.at1; rw [if_neg (by omega)]
  have e2 : ({ x.s with now := N } : FdS).led n = FdS.leadN { x.s with now := N } y k sq := by
    unfold FdS.led
    rw [if_pos (show diffI x.s.newest n < 0 by omega)]
    simp only
    rw [hd, Int.neg_neg, hy, h0, Int.toNat_natCast, Int.toNat_natCast, Int.toNat_natCast, hk, hsq]
  have e3 : ageOf { x.s with now := N } n = 0 := by unfold ageOf; show (diffI x.s.newest n).toNat = 0; omega
  have e4 : ((FdS.leadN { x.s with now := N } y k sq).nums.getD 0 (0, 0)).1 = 0 := by
    show ((List.replicate k ((0 : Int), (0 : Int)) ++ x.s.nums.take (250 - k)).getD 0 (0, 0)).1 = 0
    obtain ⟨k2, rfl⟩ : ∃ k2, k = k2 + 1 := ⟨k - 1, by omega⟩
    rfl
  unfold FeS.put
  rw [e1, e2, e3]
  refine (if_neg (show ¬ (250 ≤ 0 ∨ ((FdS.leadN { x.s with now := N } y k sq).nums.getD 0 (0, 0)).1 ≠ 0) from fun e => e.elim (by omega) (fun e => e e4))).trans ?_
  show (true, FeS.lose _ (sq : Int).toNat) = _
  rw [Int.toNat_natCast]
theorem FeS.put_first (x : FeS) (N : Int) (n sz : Nat) (rest : List (Int × Int)) (h0 : x.s.span = 0) (hn : x.s.nums = (0, 0) :: rest) :
    x.put N n sz = (true, FeS.lose ⟨x.s.put1 N n rest sz, x.l⟩ 1) := by
  have e1 : x.at1 N n = { x.s with now := N, first := n, newest := n, span := 1, since := N } := by unfold FeS.at1; rw [if_pos h0]
  have e2 : ({ x.s with now := N, first := n, newest := n, span := 1, since := N } : FdS).led n = { x.s with now := N, first := n, newest := n, span := 1, since := N } := by
    unfold FdS.led
    rw [if_neg (show ¬ diffI n n < 0 by rw [diffI_self]; decide)]
  have e3 : ageOf { x.s with now := N, first := n, newest := n, span := 1, since := N } n = 0 := by unfold ageOf; show (diffI n n).toNat = 0; rw [diffI_self]; rfl
  unfold FeS.put
  rw [e1, e2, e3]
  refine (if_neg (show ¬ (250 ≤ 0 ∨ (x.s.nums.getD 0 (0, 0)).1 ≠ 0) from fun e => e.elim (by omega) (fun e => e (by rw [hn]; rfl)))).trans ?_
  show (true, FeS.lose ⟨{ x.s with now := N, first := n, newest := n, span := 1, since := N, nums := x.s.nums.set 0 (1, N), bytes := x.s.bytes + sz }, x.l⟩ 1) = _
  rw [hn]
  rfl
theorem feedPut_any (x : FeS) {K : Nat} (hx : x.Inv K) (hK : K ≤ 1000) (now N : Int) (hN : max x.s.now (min now 4611686018427387904) = N) (hNt : timeOk N) (n : Nat) (hn : n < 281474976710656) (Z : Int) (sz : Nat) (hz : min (max Z 0) 65535 = (sz : Int)) (C b : Nat) (w : World) (h : FeedAt x C b w) :
    Calls Tryz.prog 7 #[.pointer (some ⟨C, 0, none⟩), .int .i64 now, .int .u64 n, .int .i64 Z] w fun e w' => e = .returned (.bool (x.put N n sz).1) ∧ ∃ b', FeedAt (x.put N n sz).2 C b' w' ∧ Kept [C, b] w w' ∧ (b' = b ∨ w.heap.size ≤ b') := by
  obtain ⟨cl, hf, hc⟩ := h
  obtain ⟨sp, h0, h1⟩ := hx.span
  have hby : x.s.bytes ≤ 1099511627776 := by have := hx.bytes; omega
  have hdi := fun W => seqDiff_any x.s.newest n (by have := hx.new; omega) (by omega) W
  by_cases hs : sp = 0
  · have h2 : x.s.span = 0 := by omega
    have h3 : x.s.nums = (0, 0) :: List.replicate 249 (0, 0) := by rw [(hx.zero h2).1]; rfl
    rw [x.put_first N n sz _ h2 h3]
    exact putA_first x.s h2 _ h3 now N hN n (fun W => by have h9 := seqDiff_any n n (by omega) (by omega) W; rw [diffI_self] at h9; exact h9) Z sz hz hby cl x.l hx.ok (by omega) hx.times hNt hn hx.new C b w hf hc
  · obtain ⟨d, hd⟩ : ∃ d, diffI x.s.newest n = d := ⟨_, rfl⟩
    have hdl := diffI_le x.s.newest n
    rw [hd] at hdl hdi
    by_cases hneg : d < 0
    · obtain ⟨step, hst⟩ : ∃ step : Nat, d = -(step : Int) := ⟨(-d).toNat, by omega⟩
      subst hst
      obtain ⟨y, hy⟩ : ∃ y : Nat, stepI x.s.newest step = (y : Int) := ⟨(stepI x.s.newest step).toNat, by unfold stepI; omega⟩
      have hyb : y < 281474976710656 := by unfold stepI at hy; omega
      rw [x.put_lead N n sz sp step _ y _ h0 hs hd (by omega) rfl hy rfl]
      exact putA_lead x.s N cl now hN n step (min step 250) y sp (min (sp + min step 250) 250) (by omega) (by omega) rfl h0 (by omega) h1 rfl hyb (fun W => by
        have h9 := seqAdd_any x.s.newest step (by have := hx.new; omega) (by omega) (by omega) W
        rw [hy] at h9
        exact h9) hdi _ rfl Z sz hz hby x.l hx.ok (by omega) hx.times hNt hn hx.new C b w hf hc
    · obtain ⟨a, ha⟩ : ∃ a : Nat, d = (a : Int) := ⟨d.toNat, by omega⟩
      subst ha
      have hkeep : ∀ {e : Ending} {w' : World}, (e = .returned (.bool false) ∧ FdAt { x.s with now := N } cl C w' ∧ Kept [C] w w') → e = .returned (.bool false) ∧ ∃ b', FeedAt ⟨{ x.s with now := N }, x.l⟩ C b' w' ∧ Kept [C, b] w w' ∧ (b' = b ∨ w.heap.size ≤ b') := fun ⟨q1, q2, q3⟩ => by
        refine ⟨q1, b, ⟨cl, q2, ?_⟩, q3.more (fun x hx => by simp at hx; simp [hx]), .inl rfl⟩
        rcases hc with h | ⟨h3, c, h4, h5⟩
        · exact .inl h
        · exact .inr ⟨h3, c, h4, h5.kept q3 (by simpa using h5.ne hf.blk)⟩
      by_cases hold : 250 ≤ a
      · rw [x.put_no N n sz (by omega) (by omega) (.inl (by rw [hd]; omega))]
        exact (putA_old x.s N cl now hN n a sp hold (by omega) h0 (by omega) hdi Z C w hf).mono fun e w' q => hkeep q
      · by_cases hst : (x.s.nums.getD a (0, 0)).1 = 0
        · rw [x.put_fill N n sz a sp h0 hs hd (by omega) hst]
          exact putA_fill x.s N cl now hN n sp a (by omega) h0 (by omega) h1 hdi _ rfl hst Z sz hz hby x.l hx.ok (by omega) hx.times hNt hn hx.new C b w hf hc
        · rw [x.put_no N n sz (by omega) (by omega) (.inr (by rw [hd]; simpa using hst))]
          exact (putA_no x.s N cl now hN n a sp (by omega) h0 (by omega) hdi _ rfl hst Z C w hf).mono fun e w' q => hkeep q
end Go.Proofs.YtbiglbclifbmhaaGreatDoor

namespace Go.Proofs.YtbiglbclifbmhaaGreatDoor
open Go.ChangeShapes Go.WideShapes Go.ChangeAt Go.RowKit
set_option linter.unusedVariables false
set_option linter.unusedSimpArgs false

theorem infoU64 : (Tryz.prog.info? 22).map (fun i => (i.zero, i.size, i.bytes)) = some (some (.int .u64 0), 1, 8) := by kernel_rfl
def u64V (n : Nat) : Value := .int .u64 n
/-- A row of numbers that the call owns from block B on; below B nothing has turned since W0. -/
def U64Own (B : Nat) (v : Value) (l : List Nat) (W0 w : World) : Prop := w.ownsRow B 22 1 v l.length (l.map u64V) ∧ Below B W0 w ∧ B ≤ w.heap.size
theorem U64Own.nil (w : World) : U64Own w.heap.size (.slice none 0 0) [] w w := ⟨World.ownsRow_nil _ _ _ _, Below.refl _ _, Nat.le_refl _⟩
theorem U64Own.kept {B : Nat} {v : Value} {l : List Nat} {W0 w w' : World} (h : U64Own B v l W0 w) (hb : Below w.heap.size w w') : U64Own B v l W0 w' := by
  refine ⟨h.1.kept (row := none) ⟨hb.os, hb.tape, hb.output, hb.size, fun k hk _ => hb.block k hk⟩ ?_, h.2.1.trans (hb.mono h.2.2), Nat.le_trans h.2.2 hb.size⟩
  cases v.ownBlock <;> simp
theorem U64Own.at {B : Nat} {v : Value} {l : List Nat} {W0 w : World} (h : U64Own B v l W0 w) (hl : l.length ≤ 1073741824) (hs : ∀ i, l.getD i 0 < 18446744073709551616) : U64At w v l := by
  refine ⟨?_, hl, hs⟩
  rcases h.1.2 with ⟨rfl, h0⟩ | ⟨g, cap, cur, rfl, _, hg, hcap, hcm, _, ht⟩
  · exact ⟨none, 0, by rw [h0], by omega, by decide, fun i hi => by omega⟩
  · have hlt : g < w.heap.size := by
      rcases Nat.lt_or_ge g w.heap.size with hlt | hge
      · exact hlt
      · rw [Array.getElem?_eq_none hge] at hg; cases hg
    refine ⟨some ⟨g, 0, none⟩, cap, rfl, hcap, by unfold maxLen at hcm; omega, fun i hi => ⟨g, 0, rfl, hlt, ?_⟩⟩
    rw [cell_of_row w g (0 + i) cur _ _ hg, Nat.zero_add, ← Array.getElem?_toList]
    have h2 : (l.map u64V)[i]? = some (.int .u64 (l.getD i 0)) := by
      rw [List.getElem?_map, List.getElem?_eq_getElem hi, List.getD_eq_getElem?_getD, List.getElem?_eq_getElem hi]; rfl
    rw [← ht, List.getElem?_take_of_lt (by omega)] at h2
    exact h2
/-- A slice of numbers appended. -/
theorem wp_u64s {ops : Array Oper} {rest : List Oper} {o : Oper} {a : Act} {Q : Exit → Act → World → Prop} (hgd : o.guard = none) (s x : Operand)
    (ho : o.op = .call { callee := .builtin .append, args := #[s, x], argTypes := #[28, 28] })
    (B : Nat) (v : Value) (l m : List Nat) (hs : a.eval s = v) (W0 w : World) (hb : U64Own B v l W0 w) (b : Nat) (q c : Nat)
    (hx : a.eval x = .slice (some ⟨b, q, none⟩) m.length c) (hm : ∀ i, i < m.length → w.cell? ⟨b, q + i, none⟩ = some (.int .u64 (m.getD i 0))) (hlen : l.length ≤ 1073741824) (hlen2 : m.length ≤ 1073741824)
    (h : ∀ v' w', U64Own B v' (l ++ m) W0 w' → wpList Tryz.prog ops Q rest (a.put o.dst v') w') : wpList Tryz.prog ops Q (o :: rest) a w := by
  obtain ⟨i0, hi, hz0, hz1, hz2⟩ := info_parts infoU64
  refine wpList_append_own _ hgd s x 28 ho B 22 i0 (.int .u64 0) 1 8 Tryz.underlying28 hi hz0 hz1 hz2 rfl (by decide) v l.length (l.map u64V) hs hb.1 ⟨b, q, none⟩ m.length c (m.map u64V) hx (by simp) (fun j u hu => ?_) (fun u hu => ?_) (by unfold maxLen; omega) (by omega) hb.2.2 ?_
  · have hj : j < m.length := by
      rcases Nat.lt_or_ge j m.length with h1 | h1
      · exact h1
      · rw [List.getElem?_eq_none (by simpa using h1)] at hu; cases hu
    rw [List.getElem?_map, List.getElem?_eq_getElem hj] at hu
    have hc := hm j hj
    rw [List.getD_eq_getElem?_getD, List.getElem?_eq_getElem hj] at hc
    rw [show (⟨b, q, none⟩ : Addr).add j = ⟨b, q + j, none⟩ from by unfold Addr.add; split <;> simp_all, hc]
    simpa [u64V] using hu
  · obtain ⟨n, _, rfl⟩ := List.mem_map.1 hu; rfl
  · intro v' w' ho' hg _
    refine h v' w' ⟨?_, hb.2.1.grown hg hb.2.2 (fun k hk => (hb.1.lt k hk).1), Nat.le_trans hb.2.2 hg.size⟩
    rw [List.length_append, List.map_append]
    exact ho'
end Go.Proofs.YtbiglbclifbmhaaGreatDoor

namespace Go.Proofs.YtbiglbclifbmhaaGreatDoor
open Go.ChangeShapes Go.WideShapes Go.ChangeAt Go.RowKit
set_option linter.unusedVariables false
set_option linter.unusedSimpArgs false

def FeS.opn (x : FeS) : Nat := if x.l = [] then 0 else lenU x.s.en x.s.newest
theorem FeS.opn_lt (x : FeS) : x.opn < 281474976710656 := by
  unfold FeS.opn
  split
  · decide
  · exact lenU_lt _ _
set_option maxRecDepth 100000 in
set_option maxHeartbeats 4000000 in
theorem feedOpen_any (x : FeS) (h1 : x.s.en < 281474976710656) (h2 : x.s.newest < 281474976710656) (C b : Nat) (w : World) (h : FeedAt x C b w) :
    Calls Tryz.prog 44 #[.pointer (some ⟨C, 0, none⟩)] w fun e w' => e = .returned (.int .u64 x.opn) ∧ ∃ n, w' = w.drewN n := by
  obtain ⟨cl, hf, hc⟩ := h
  rcases hc with ⟨h0, rfl, _⟩ | ⟨h0, c, rfl, hr⟩
  · rw [show x.opn = 0 by unfold FeS.opn; rw [if_pos h0]]
    exact (feedOpen_none x.s none 0 C w hf).mono fun e w' ⟨q1, q2⟩ => ⟨q1, 0, q2⟩
  · rw [show x.opn = lenU x.s.en x.s.newest by unfold FeS.opn; rw [if_neg h0]]
    have a8 := hf.tail.2.2.2.2.1
    have a6 := hf.tail.2.2.1
    have a3 := hf.head.2.2.2
    obtain ⟨N, hN⟩ : ∃ N, x.l.length = N := ⟨_, rfl⟩
    have hN1 : ¬ N = 0 := by
      rw [← hN]
      intro e
      exact h0 (List.length_eq_zero_iff.1 e)
    have hN2 : ((N : Int) == 0) = false := by rw [beq_eq_false_iff_ne]; omega
    rw [hN] at a8
    have HLN := Lib.hid (fun W => feedLen_any x.s.en x.s.newest h1 h2 W)
    generalize lenU x.s.en x.s.newest = V at *
    generalize x.s.en = E at *
    generalize x.s.newest = Y at *
    clear hf hr hN h0
    go_enter Tryz.func44, Tryz.ntmps44
    go_upto_region 3 with fail
    go_quiet ((go_at_call 79; exact Calls.quiet_of_same ((HLN.out _).mono fun e w' ⟨q1, q2⟩ => ⟨q1, q2.symm⟩)))
    go_wp2
    go_ret
    exact ⟨rfl, _, rfl⟩
/-- A copy of the closed ones. -/
def CopyAt (l : List Nat) (v : Value) (B : Nat) (w : World) : Prop := (l = [] ∧ v = .slice none 0 0) ∨ (l ≠ [] ∧ ∃ g c, v = .slice (some ⟨g, 0, none⟩) l.length c ∧ RowU l g c w ∧ B ≤ g)
set_option maxRecDepth 100000 in
theorem cloneU_nil (w : World) : Calls Tryz.prog 45 #[.slice none 0 0] w fun e w' => e = .returned (.slice none 0 0) ∧ w' = w := by
  have hE : ∀ w : World, (binOp .eql 28 (.slice none 0 0) (.slice none 0 0)).run Tryz.prog w = .ok (.bool true) w := fun w => Lib.run_eql_slice_nil w 28 22 none 0 0 0 0 (by rfl)
  go_enter Tryz.func45, Tryz.ntmps45
  go_wp2
  go_ret
  exact ⟨rfl, rfl⟩
set_option maxRecDepth 100000 in
set_option maxHeartbeats 4000000 in
theorem cloneU_row (l : List Nat) (hl : l ≠ []) (hl2 : l.length ≤ 1000) (b c : Nat) (w : World) (h : RowU l b c w) :
    Calls Tryz.prog 45 #[.slice (some ⟨b, 0, none⟩) l.length c] w fun e w' => ∃ v, e = .returned v ∧ CopyAt l v w.heap.size w' ∧ Kept [] w w' := by
  obtain ⟨i0, hi, hz0, hz1, hz2⟩ := info_parts infoU64f
  obtain ⟨T, hb, hc⟩ := h.blk
  obtain ⟨N, hN⟩ : ∃ N, l.length = N := ⟨_, rfl⟩
  have hNc : N ≤ c := by omega
  have hN1 : 0 < N := by
    rw [← hN]
    rcases l with _ | ⟨a, l⟩
    · exact absurd rfl hl
    · simp
  have HC2 := Lib.hid h.cap2
  obtain ⟨ls, hls⟩ : ∃ ls, l.map uV = ls := ⟨_, rfl⟩
  have hlen : ls.length = N := by rw [← hls, List.length_map, hN]
  have HB1 : Hid (Below w.heap.size w (w.alloc (.cells #[] 22))) := Lib.hid (by exact bel_alloc _ _)
  have HO : Hid ((w.alloc (.cells #[] 22)).ownsRow w.heap.size 22 1 (.slice (some ⟨w.heap.size, 0, none⟩) 0 0) 0 []) := Lib.hid ⟨rfl, .inr ⟨w.heap.size, 0, #[], rfl, Nat.le_refl _, by exact heap_alloc_new w _, Nat.le_refl _, by decide, rfl, rfl⟩⟩
  have HNW : Hid (∀ j u, ls[j]? = some u → (w.alloc (.cells #[] 22)).cell? ((⟨b, 0, none⟩ : Addr).add j) = some u) := Lib.hid (fun j u hj => by
    have hb1 := hb.below HB1.out
    rw [Addr.add_lit, Nat.zero_add, hb1.cell j, hls, List.getElem?_toArray, List.getElem?_append_left (List.getElem?_eq_some_iff.1 hj).1]
    exact hj)
  have H1C : Hid (∀ u ∈ ls, u.oneCell' = true) := Lib.hid (fun u hu => by
    rw [← hls] at hu
    obtain ⟨z, _, rfl⟩ := List.mem_map.1 hu
    rfl)
  have hS : (w.alloc (.cells #[] 22)).heap.size = w.heap.size + 1 := by rw [World.size_alloc]
  have HS := Lib.hid hS
  have hE : ∀ W : World, (binOp .eql 28 (.slice (some ⟨b, 0, none⟩) N c) (.slice none 0 0)).run Tryz.prog W = .ok (.bool false) W := fun W => Lib.run_eql_slice_nil W 28 22 (some ⟨b, 0, none⟩) N c 0 0 (by rfl)
  have HLS := Lib.hid hls
  clear h hb hc hls hS
  rw [hN]
  have HN := Lib.hid hN
  have HLE := Lib.hid hlen
  have hN2 : N ≤ 1000 := by omega
  clear hN hlen hl2
  go_enter Tryz.func45, Tryz.ntmps45
  go_wp2_with (at_builtin; refine wpList_append_own _ rfl _ _ 28 rfl w.heap.size 22 i0 (.int .u64 0) 1 8 Tryz.underlying28 hi hz0 hz1 hz2 rfl (by decide) (.slice (some ⟨w.heap.size, 0, none⟩) 0 0) 0 [] rfl HO.out ⟨b, 0, none⟩ N c ls rfl (by rw [HLE.out]; simp) HNW.out H1C.out (by unfold maxLen; omega) (by omega) (by rw [HS.out]; omega) ?_; intro v' w' ho hg hne)
  go_ret
  rw [Nat.zero_add, List.nil_append] at ho
  have hn : ¬ v' = .slice none 0 0 := fun e => by have := (hne.1 e).2; omega
  rcases ho.2 with ⟨e, _⟩ | ⟨g, cap, cur, e, hB, hgb, hcap, hcm, hcs, ht⟩
  · exact absurd e hn
  · subst e
    have ht2 : cur.toList.take N = l.map uV := by rw [HLS.out]; simpa using ht
    have hsz : cur.toList.length = cap := by simpa using hcs
    refine ⟨_, rfl, .inr ⟨hl, g, cap, by rw [HN.out]; rfl, ⟨⟨cur.toList.drop N, ?_, ?_⟩, by unfold maxLen at hcm; exact hcm⟩, hB⟩, ?_⟩
    · rw [← ht2, List.take_append_drop, Array.toArray_toList]
      exact hgb
    · rw [List.length_drop, HN.out]
      omega
    · exact ((Kept.refl [] w).alloc _).grown hg (fun q hq => by
        have e9 : w.heap.size = q := by simpa [Value.ownBlock] using hq
        exact .inr (by omega))
/-- Rows that read alike are the same. -/
def SameAt (l : List Nat) (v : Value) (w : World) : Prop := (l = [] ∧ v = .slice none 0 0) ∨ (l ≠ [] ∧ ∃ g c, v = .slice (some ⟨g, 0, none⟩) l.length c ∧ RowU l g c w)
theorem CopyAt.same {l : List Nat} {v : Value} {B : Nat} {w : World} (h : CopyAt l v B w) : SameAt l v w := by
  rcases h with h | ⟨h1, g, c, h2, h3, _⟩
  · exact .inl h
  · exact .inr ⟨h1, g, c, h2, h3⟩
theorem SameAt.kept {l : List Nat} {v : Value} {S : List Nat} {w w' : World} (h : SameAt l v w) (k : Kept S w w') (hn : ∀ q, v.ownBlock = some q → q ∉ S) : SameAt l v w' := by
  rcases h with h | ⟨h1, g, c, rfl, h3⟩
  · exact .inl h
  · exact .inr ⟨h1, g, c, rfl, h3.kept k (hn g rfl)⟩
theorem SameAt.shape {l : List Nat} {v : Value} {w : World} (h : SameAt l v w) : ∃ p c, v = .slice p l.length c ∧ l.length ≤ c ∧ c ≤ 9223372036854775807 ∧ ∀ i, i < l.length → ∃ g, p = some ⟨g, 0, none⟩ ∧ w.cell? ⟨g, i, none⟩ = some (.int .u64 (l.getD i 0)) := by
  rcases h with ⟨rfl, rfl⟩ | ⟨h1, g, c, rfl, h3⟩
  · exact ⟨none, 0, rfl, Nat.le_refl _, by decide, fun i hi => absurd hi (Nat.not_lt_zero i)⟩
  · obtain ⟨T, hb, hc⟩ := h3.blk
    refine ⟨_, c, rfl, h3.cap1, h3.cap2, fun i hi => ⟨g, rfl, ?_⟩⟩
    rw [hb.cell i, List.getElem?_toArray, List.getElem?_append_left (by simpa using hi), List.getElem?_map, List.getElem?_eq_getElem hi, List.getD_eq_getElem?_getD, List.getElem?_eq_getElem hi]
    rfl
set_option maxRecDepth 100000 in
set_option maxHeartbeats 4000000 in
theorem same_any (l : List Nat) (hl : l.length ≤ 1000) (v1 v2 : Value) (w : World) (h1 : SameAt l v1 w) (h2 : SameAt l v2 w) :
    Calls Tryz.prog 12 #[v1, v2] w fun e w' => e = .returned (.bool true) ∧ ∃ n, w' = w.drewN n := by
  obtain ⟨p, c, rfl, a1, a2, a3⟩ := h1.shape
  obtain ⟨q, d, rfl, b1, b2, b3⟩ := h2.shape
  obtain ⟨N, hN⟩ : ∃ N, l.length = N := ⟨_, rfl⟩
  have HA := Lib.hid a3
  have HB := Lib.hid b3
  rw [hN] at hl a1 b1 HA HB ⊢
  clear h1 h2 a3 b3 hN
  go_enter Tryz.func12, Tryz.ntmps12
  go_wp2
  go_loopw [13] (fun i wr => ∃ k : Nat, i = .int .i64 (k : Int) ∧ k ≤ N ∧ ∃ n, wr = w.drewN n) (fun i _ => N - (intOf i).toNat)
  case atStart => exact ⟨0, rfl, by omega, 0, rfl⟩
  case round =>
    obtain ⟨k, rfl, hk, n, rfl⟩ := hrel
    by_cases hk2 : k < N
    · obtain ⟨g, rfl, x0⟩ := HA.out k hk2
      obtain ⟨g', rfl, x1⟩ := HB.out k hk2
      generalize l.getD k 0 = V at *
      go_wp2
      go_quiet (fail)
      go_wp2
      refine ⟨⟨k + 1, by go_num, by omega, n + nq, by first | rfl | exact (World.drewN_drewN w n nq).symm | exact World.drewN_drewN w n nq⟩, ?_⟩
      simp [intOf]; omega
    · obtain rfl : k = N := by omega
      go_wp2
      go_ret
      exact ⟨rfl, n, rfl⟩
end Go.Proofs.YtbiglbclifbmhaaGreatDoor

namespace Go.Proofs.YtbiglbclifbmhaaGreatDoor
open Go.ChangeShapes Go.WideShapes Go.ChangeAt Go.RowKit
set_option linter.unusedVariables false
set_option linter.unusedSimpArgs false

theorem SameAt.u64 {l : List Nat} {v : Value} {w : World} (h : SameAt l v w) (hl : l.length ≤ 1073741824) (hs : ∀ i, l.getD i 0 < 18446744073709551616) : U64At w v l := by
  rcases h with ⟨rfl, rfl⟩ | ⟨h1, g, c, rfl, h3⟩
  · exact ⟨⟨none, 0, rfl, Nat.le_refl _, by decide, fun i hi => absurd hi (Nat.not_lt_zero i)⟩, hl, hs⟩
  · obtain ⟨T, hb, hc⟩ := h3.blk
    refine ⟨⟨_, c, rfl, h3.cap1, h3.cap2, fun i hi => ⟨g, 0, rfl, hb.lt, ?_⟩⟩, hl, hs⟩
    rw [Nat.zero_add, hb.cell i, List.getElem?_toArray, List.getElem?_append_left (by simpa using hi), List.getElem?_map, List.getElem?_eq_getElem hi, List.getD_eq_getElem?_getD, List.getElem?_eq_getElem hi]
    rfl
theorem FeedAt.same {x : FeS} {C b : Nat} {w : World} (h : FeedAt x C b w) : ∃ cl, FdAt x.s cl C w ∧ SameAt x.l cl w := by
  obtain ⟨cl, h1, h2⟩ := h
  rcases h2 with ⟨h3, h4, _⟩ | ⟨h3, c, h4, h5⟩
  · exact ⟨cl, h1, .inl ⟨h3, h4⟩⟩
  · exact ⟨cl, h1, .inr ⟨h3, b, c, h4, h5⟩⟩
theorem feedLost_any (x : FeS) (C b : Nat) (w : World) (h : FeedAt x C b w) :
    Calls Tryz.prog 10 #[.pointer (some ⟨C, 0, none⟩)] w fun e w' => e = .returned (.int .i64 x.s.lost) ∧ w = w' := by
  obtain ⟨cl, h1, _⟩ := h
  have a5 := h1.tail.2.1
  clear h1
  go_enter Tryz.func10, Tryz.ntmps10
  go_wp2
  go_ret
  exact ⟨rfl, rfl⟩
theorem feedLoss_any (x : FeS) (h1 : x.s.en < 281474976710656) (h2 : x.s.newest < 281474976710656) (hl : x.l.length ≤ 8) (hv : ∀ v ∈ x.l, v < 281474976710656) (C b : Nat) (w : World) (hT : TabW w) (h : FeedAt x C b w) :
    Calls Tryz.prog 13 #[.pointer (some ⟨C, 0, none⟩)] w fun e w' => e = .returned (.int .u64 (M.lossRate x.opn x.l)) ∧ ∃ n, w' = w.drewN n := by
  have HO := Lib.hid (fun n => feedOpen_any x h1 h2 C b (w.drewN n) (h.below (bel_drewN w n)))
  obtain ⟨cl, hf, hs⟩ := h.same
  have a8 := hf.tail.2.2.2.2.1
  have hsm : ∀ i, x.l.getD i 0 < 18446744073709551616 := fun i => by
    rw [List.getD_eq_getElem?_getD]
    rcases Nat.lt_or_ge i x.l.length with hi | hi
    · rw [List.getElem?_eq_getElem hi]
      have := hv _ (List.getElem_mem hi)
      show x.l[i] < _
      omega
    · rw [List.getElem?_eq_none hi]; decide
  have HR := Lib.hid (fun n => rate_any x.opn cl x.l (by have := x.opn_lt; omega) (w.drewN n) (hT.drewN n) ((hs.u64 (by omega) hsm).drewN n))
  generalize M.lossRate x.opn x.l = R at *
  generalize x.opn = O at *
  clear h hT hf hs hv hsm h1 h2 hl
  go_enter Tryz.func13, Tryz.ntmps13
  go_wp2
  go_quiet ((first
    | (go_at_call 44; exact Calls.quiet_of (HO.out _))
    | (go_at_call 37; exact Calls.quiet_of (HR.out _))))
  go_wp2
  go_ret
  exact ⟨rfl, _, rfl⟩
set_option maxRecDepth 100000 in
set_option maxHeartbeats 4000000 in
theorem feedIntervals_any (x : FeS) (h1 : x.s.en < 281474976710656) (h2 : x.s.newest < 281474976710656) (hl : x.l.length ≤ 8) (C b : Nat) (w : World) (h : FeedAt x C b w) :
    Calls Tryz.prog 9 #[.pointer (some ⟨C, 0, none⟩)] w fun e w' => ∃ v, e = .returned (.tuple #[.int .u64 x.opn, v]) ∧ CopyAt x.l v w.heap.size w' ∧ Kept [] w w' := by
  have HO := Lib.hid (feedOpen_any x h1 h2 C b w.drew (h.below (bel_drewN w 1)))
  obtain ⟨cl, hf, hc⟩ := h
  have a8 := hf.tail.2.2.2.2.1
  rcases hc with ⟨h0, rfl, _⟩ | ⟨h0, c, rfl, hr⟩
  · rw [show x.opn = 0 by unfold FeS.opn; rw [if_pos h0]]
    exact (feedIntervals_none x.s C w hf).mono fun e w' ⟨q1, n, q2⟩ => ⟨_, q1, .inl ⟨h0, rfl⟩, by rw [q2]; exact (Kept.refl [] w).drewN n⟩
  · have HC : Hid (∀ m, Calls Tryz.prog 45 #[.slice (some ⟨b, 0, none⟩) x.l.length c] (w.drewN m) fun e w' => ∃ v, e = .returned v ∧ CopyAt x.l v w.heap.size w' ∧ Kept [] w w') := Lib.hid (fun m => by
      have k : Kept [] w (w.drewN m) := (Kept.refl [] w).drewN m
      refine (cloneU_row x.l h0 (by omega) b c (w.drewN m) (hr.kept k (by simp))).mono ?_
      rintro e w' ⟨v, q1, q2, q3⟩
      exact ⟨v, q1, q2, k.trans' q3⟩)
    generalize x.opn = O at *
    generalize x.l = l at *
    clear hf hr h0 h1 h2
    go_enter Tryz.func9, Tryz.ntmps9
    go_wp2
    go_region_with (first
      | (go_at_call 44; (with_reducible refine HO.out.mono ?_); rintro e w1 ⟨rfl, m1, rfl⟩)
      | (go_at_call 45; (with_reducible refine (HC.out _).mono ?_); rintro e w2 ⟨v2, rfl, q2, q3⟩))
    all_goals
      go_wp2
      go_ret2
      exact ⟨_, rfl, q2, q3⟩
end Go.Proofs.YtbiglbclifbmhaaGreatDoor
