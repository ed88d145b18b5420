/-
  A range over a function that makes so many rounds, in order: what a round is handed is told by its number and by the world in which it begins.
  Package sent: what is told of a number; what take does, of whatever record.
  Package sent: a Hear of whatever records, of which none is lost.
  Package sent: how many are out, how many are kept; what may be put behind those that are kept.
  Package sent: slices.Backward over records that turn while it goes; what loseOvertaken comes to.
  Package sent: loseOvertaken, whatever is kept; at most one is lost.
  Package sent: Hear in general, where one at most is lost.
  Package sent: what a Hear comes to, where the first ones are got, or nothing is.
  Package sent: numbers that were put one behind the other; a Hear of the first ones; a Hear of nothing new.
  Package sent: a Hear of cells that may not be, however many they are.
-/
import Derived.RangeFuncNested
import Derived.RangeFuncBound
import Derived.RangeFuncCalls
import Derived.RangeFuncLeaves
import Derived.RangeFuncBox
import Derived.Test.YtkpginmdnlhfbaaGreatDoorBlk
import Derived.Test.YtkpginmdnlhfbaaGreatDoorSnE
import Derived.Test.YtkpginmdnlhfbaaGreatDoorSnM
import Derived.Shelf.Abstract
import Derived.Shelf.RegionOpen
import Derived.OwnWalkIn
import Derived.TacticsInMore
import Derived.LoopNIn
import Derived.LoopIn
import Derived.RegionIn
import Derived.BigRegionIn
import Derived.Test.YtkpginmdnlhfbaaGreatDoorSnD
import Derived.Lib.OwnKind
import Derived.Test.YtkpginmdnlhfbaaGreatDoorVecC
namespace Go.Proofs.YtkpginmdnlhfbaaGreatDoor
open Go Go.RowKit
set_option linter.unusedVariables false

variable {F : Fence} {n : Nat} {P : Program}

/-- N rounds; round k is handed vs where 'sees k W vs', W the world in which it begins; a round keeps Kp. -/
def RoundsOf (F : Fence) (n : Nat) (P : Program) (g : Nat) (lb : Array Value) (sees : Nat → World → Array Value → Prop) (Kp : World → World → Prop) (N : Nat) (w0 : World) : Prop :=
  ∀ (l : Nat) (J : Nat → World → Prop) (W : World), Below w0.heap.size w0 W →
    (∀ k vs X, J k X → k < N → sees k X vs → YieldAt F (n - 1) P l vs X fun e Y => e = .returned (.bool true) ∧ J (k + 1) Y ∧ Kp X Y) →
    J 0 W → CallsIn F n P g (#[.func (.yield l) #[] #[]] ++ lb) W fun e Y => (∃ v, e = .returned v) ∧ J N Y

/-- A round's body goes on. -/
def onPost (B : Nat) (Kp : World → World → Prop) (I : World → Prop) (W : World) : Exit → Act → World → Prop
  | .normal, _, Y => KeepsFrom B W Y ∧ Kp W Y ∧ I Y
  | _, _, _ => False

theorem wpIn_rangeFunc_rounds {g : Operand} {ps : Array Tmp} {assign body : Code} {Q : Exit → Act → World → Prop} {a : Act} {w : World}
    (hro : F.round = none) (h1 : 1 ≤ n) {gf : Nat} {lb : Array Value} (hg : a.eval g = .func (.func gf) #[] lb) (hFg : F.fn gf) (eg : ∀ args W, (callFunc gf args).run P W = .ok (.enter gf args) W)
    {sees : Nat → World → Array Value → Prop} {Kp : World → World → Prop} {N : Nat} {w0 : World} (hseq : RoundsOf F (n - 1) P gf lb sees Kp N w0)
    (hKt : ∀ {A B C : World}, Kp A B → Kp B C → Kp A C) (hKb : ∀ (W : World) (l : Nat) (o o' : Obj), w.heap.size ≤ l → W.heap[l]? = some o → o.isCells = false → o.isWalk = false → Kp W (W.putObj l o'))
    (hb0 : Below w0.heap.size w0 w) (hps : ∀ k W vs, sees k W vs → vs.size = ps.size)
    (I : Nat → World → Prop) (hI : OwnFrom w.heap.size I) (h0 : I 0 w) (Ax : Nat → Array Value → Act → World → Prop) (hAx : ∀ k vs b, OwnFrom w.heap.size (fun (_ : Unit) W => Ax k vs b W))
    (hassign : ∀ (l k : Nat) (vs : Array Value) (W : World) (K : Act → World → Prop), I k W → k < N → sees k W vs → (∀ b Y, KeepsFrom w.heap.size W Y → Kp W Y → I k Y → Ax k vs b Y → K b Y) →
      assign.wpIn (F.inRound l) (n - 1 - 1) P (Exit.then K (fun _ _ _ => False)) { tmps := (ps.zip vs).foldl (fun t (p, v) => t.setIfInBounds p v) a.tmps, defers := [] } W)
    (hbody : ∀ (l k : Nat) (vs : Array Value) (b : Act) (W : World), w.heap.size ≤ l → (∃ r, W.heap[l]? = some (.loop r)) → I k W → k < N → Ax k vs b W → body.wpIn (F.inRound l) (n - 1 - 1) P (onPost w.heap.size Kp (I (k + 1)) W) b W)
    (hdone : ∀ (D : Nat) (W : World), w.heap.size ≤ D → I N W → W.heap[D]? = some (.deferred (some [])) → Q .normal { a with defers := { target := .collected D, args := #[] } :: a.defers } W) :
    (Code.rangeFunc g ps assign body).wpIn F n P Q a w := by
  obtain ⟨B, hB⟩ : ∃ B, w.heap.size = B := ⟨_, rfl⟩
  rw [hB] at hKb hI hAx hassign hbody hdone
  refine wpIn_rangeFunc fun fn hfn => ?_
  rw [hro]
  -- what lies in the record, by its state
  obtain ⟨rc, hrc⟩ : ∃ rc : LoopState → Loop, rc = fun s => { state := s, pending := none, fn, tmps := a.tmps, params := ps, assign, body, defers := B } := ⟨_, rfl⟩
  have e1 : (Instr.enterLoop fn a.tmps ps assign body none).run P w = .ok (B + 1, [{ target := .collected B, args := #[] }]) ((w.alloc (.deferred (some []))).alloc (.loop (rc .ready))) := by
    rw [hrc, ← hB]; exact run_enterLoop_outer fn a.tmps ps assign body
  have eR : ((w.alloc (.deferred (some []))).alloc (.loop (rc .ready))).heap[B + 1]? = some (.loop (rc .ready)) := by
    have h := World.alloc_heap_new (w.alloc (.deferred (some []))) (.loop (rc .ready))
    rw [World.size_alloc, hB] at h; exact h
  have eD : ((w.alloc (.deferred (some []))).alloc (.loop (rc .ready))).heap[B]? = some (.deferred (some [])) := by
    have h := World.alloc_heap_new w (.deferred (some []))
    rw [hB] at h
    exact (Below.heap_alloc _ _ _ (by rw [World.size_alloc]; omega)).trans h
  have eI : I 0 ((w.alloc (.deferred (some []))).alloc (.loop (rc .ready))) := hI.alloc _ (hI.alloc _ h0)
  have eB : Below w0.heap.size w0 ((w.alloc (.deferred (some []))).alloc (.loop (rc .ready))) := hb0.trans ((((Below.refl _ w).alloc (Nat.le_refl _) _).alloc (by simp) _).mono hb0.size)
  revert e1 eR eD eI eB
  generalize (w.alloc (.deferred (some []))).alloc (.loop (rc .ready)) = V
  intro e1 eR eD eI eB
  refine ⟨B + 1, [{ target := .collected B, args := #[] }], V, { target := .fn (.func gf) lb, args := #[.func (.yield (B + 1)) #[] #[]] }, V, gf, #[.func (.yield (B + 1)) #[] #[]] ++ lb, V, e1, ?_, ?_, ?_, fun _ => h1, ?_⟩
  · simp only [resolve, hg]
    simp [go_sem]
  · intro f' hf'
    simp [Target.leads] at hf'
    subst hf'
    exact hFg
  · simp [invoke, go_sem, eg]
  -- the record is ready, the block for what is put off lies
  refine (hseq (B + 1) (fun k W => I k W ∧ W.heap[B + 1]? = some (.loop (rc .ready)) ∧ W.heap[B]? = some (.deferred (some []))) V eB ?_ ⟨eI, eR, eD⟩).mono ?_
  · rintro k vs X ⟨xi, xr, xd⟩ hk hs
    have hy := run_yield (P := P) (args := vs) xr (by rw [hrc]; exact hps k X vs hs)
    rw [hrc] at hy
    refine ⟨fn, _, assign, body, hy, roundIn_of_wpIn hfn (hassign _ k vs X _ xi hk hs fun b Y yk yp yi ya => ?_)⟩
    have yr := yk.same _ _ (Nat.le_succ B) xr rfl
    have yd := yk.same _ _ (Nat.le_refl B) xd rfl
    have ylt : B + 1 < Y.heap.size := (Array.getElem?_eq_some_iff.1 yr).1
    refine ⟨_, run_beginRound yr (by rw [hrc]), ?_⟩
    have zr : (Y.putObj (B + 1) (.loop { rc .ready with state := .busy })).heap[B + 1]? = some (.loop { rc .ready with state := .busy }) := World.putObj_heap_same ylt
    have zd : (Y.putObj (B + 1) (.loop { rc .ready with state := .busy })).heap[B]? = some (.deferred (some [])) := (World.putObj_heap_other (by omega)).trans yd
    have zk : Kp Y (Y.putObj (B + 1) (.loop { rc .ready with state := .busy })) := hKb _ _ _ _ (by omega) yr rfl rfl
    refine wpIn_mono (hbody _ k vs b _ (by omega) ⟨_, zr⟩ (hI.putObj _ yi (by omega) yr rfl) hk ((hAx k vs b).putObj (s := ()) _ ya (by omega) yr rfl)) ?_
    rintro e b3 Z hp
    cases e with
    | normal =>
      obtain ⟨p1, p2, p3⟩ := hp
      have vr := p1.same _ _ (Nat.le_succ B) zr rfl
      have vd := p1.same _ _ (Nat.le_refl B) zd rfl
      have hend := run_endRound (P := P) none vr
      refine ⟨_, _, hend, rfl, ⟨hI.putObj _ p3 (by omega) vr rfl, ?_, (World.putObj_heap_other (by omega)).trans vd⟩, hKt yp (hKt (hKt zk p2) (hKb _ _ _ _ (by omega) vr rfl rfl))⟩
      rw [World.putObj_heap_same (Array.getElem?_eq_some_iff.1 vr).1, hrc]
      rfl
    | ret => exact hp.elim
    | exit id => exact hp.elim
    | goto t => exact hp.elim
    | panic c => exact hp.elim
    | outgrown => exact hp.elim
  · rintro e Y ⟨⟨v, rfl⟩, yi, yr, yd⟩
    have h := run_endLoop (P := P) yr (by rw [hrc]; simp)
    have hp : (rc .ready).pending = none := by rw [hrc]
    rw [hp] at h
    exact ⟨none, _, h, hdone B _ (Nat.le_refl _) (hI.putObj _ yi (by omega) yr rfl) ((World.putObj_heap_other (by omega)).trans yd)⟩
end Go.Proofs.YtkpginmdnlhfbaaGreatDoor

namespace Go.Proofs.YtkpginmdnlhfbaaGreatDoor
open Go.ChangeShapes Go.WideShapes Go.ChangeAt Go.RowKit
set_option linter.unusedVariables false
set_option linter.unusedSimpArgs false

/-- What is told at a distance. -/
def M.told (T : List Int) (d : Int) : Int := if d < 0 then 3 else T.getD d.toNat 3
theorem sentStateOf_any (n ack : Nat) (d : Int) (hd : ∀ W, Calls Tryz.prog 72 #[.int .u64 ack, .int .u64 n] W fun e w' => e = .returned (.int .i64 d) ∧ W = w') (v : Value) (l : List Int) (w : World) (hv : I64At w v l) :
    Calls Tryz.prog 68 #[.int .u64 n, .int .u64 ack, v] w fun e w' => e = .returned (.int .i64 (M.told l d)) ∧ w' = w := by
  by_cases h0 : d < 0
  · obtain ⟨p, cap, rfl, h1, h2, hc⟩ := hv.at_
    have hl := hv.len
    have HD := Lib.hid hd
    have e : M.told l d = 3 := if_pos h0
    rw [e]
    clear hc hv hd e
    have hd0 : decide (d < 0) = true := decide_eq_true h0
    generalize l.length = N at *
    go_enter Tryz.func68, Tryz.ntmps68
    go_wp2_with (go_at_call 72; (with_reducible refine (HD.out _).mono ?_); rintro e w1 ⟨rfl, rfl⟩)
    go_ret
    exact ⟨rfl, rfl⟩
  · obtain ⟨k, rfl⟩ := Int.eq_ofNat_of_zero_le (show 0 ≤ d by omega)
    have e : M.told l (k : Int) = l.getD k 3 := by unfold M.told; rw [if_neg h0]; rfl
    by_cases hk : k < l.length
    · have e2 : l.getD k 3 = l.getD k 0 := by rw [List.getD_eq_getElem?_getD, List.getD_eq_getElem?_getD, List.getElem?_eq_getElem hk]; rfl
      rw [e, e2]
      exact sentStateOf_at n ack k hd v l hk w hv
    · have e2 : l.getD k 3 = 3 := by rw [List.getD_eq_getElem?_getD, List.getElem?_eq_none (by omega)]; rfl
      rw [e, e2]
      obtain ⟨p, cap, rfl, h1, h2, hc⟩ := hv.at_
      have hl := hv.len
      have HD := Lib.hid hd
      clear hc hv hd e e2
      have hd0 : decide ((k : Int) < 0) = false := decide_eq_false (by omega)
      generalize l.length = N at *
      have hki : decide ((N : Int) ≤ (k : Int)) = true := decide_eq_true (by omega)
      have hki2 : ¬ (k : Int) < (N : Int) := by omega
      go_enter Tryz.func68, Tryz.ntmps68
      go_wp2_with (go_at_call 72; (with_reducible refine (HD.out _).mono ?_); rintro e w1 ⟨rfl, rfl⟩)
      go_ret
      exact ⟨rfl, rfl⟩
abbrev nuV (n : Nat) : Value := .int .u64 (n : Int)
/-- What a Hear has gathered so far, at block H. -/
structure HrdAt (gs ls : List Nat) (vG vL : Value) (marks rtt : Int) (H : Nat) (w : World) : Prop where
  blk : BlkIs #[vG, vL, .slice none 0 0, .int .i64 marks, .int .i64 rtt] 41 H w
  rowG : w.ownsRow 0 22 1 vG gs.length (gs.map nuV)
  rowL : w.ownsRow 0 22 1 vL ls.length (ls.map nuV)
  neG : ∀ q, vG.ownBlock = some q → q ≠ H
  neL : ∀ q, vL.ownBlock = some q → q ≠ H
  apart : ∀ q, vG.ownBlock = some q → ∀ r, vL.ownBlock = some r → q ≠ r
theorem HrdAt.kept {gs ls : List Nat} {vG vL : Value} {m r : Int} {H : Nat} {S : List Nat} {w w' : World} (h : HrdAt gs ls vG vL m r H w) (k : Kept S w w') (h0 : H ∉ S) (h1 : ∀ q, vG.ownBlock = some q → q ∉ S) (h2 : ∀ q, vL.ownBlock = some q → q ∉ S) : HrdAt gs ls vG vL m r H w' :=
  ⟨h.blk.kept k h0, ownsRow_keptC h.rowG k h1, ownsRow_keptC h.rowL k h2, h.neG, h.neL, h.apart⟩
theorem HrdAt.drewN {gs ls : List Nat} {vG vL : Value} {m r : Int} {H : Nat} {w : World} (h : HrdAt gs ls vG vL m r H w) (k : Nat) : HrdAt gs ls vG vL m r H (w.drewN k) := h.kept ((Kept.refl [] w).drewN k) (by simp) (by simp) (by simp)
theorem heardTake_none2 (told : Int) (ht : told = 0 ∨ told = 1 ∨ told = 3) (H g o : Nat) (now : Int) (st : Int) (hst : told = 3 ∨ st = 1) (w : World) (c2 : w.cell? ⟨g, o + 2, none⟩ = some (.int .i64 st)) :
    Calls Tryz.prog 67 #[.pointer (some ⟨H, 0, none⟩), .pointer (some ⟨g, o, none⟩), .int .i64 told, .int .i64 now] w fun e w' => e = .returned (.tuple #[]) ∧ w' = w := by
  by_cases h3 : told = 3
  · subst h3
    exact heardTake_none H g o now w
  · have h1 : st = 1 := hst.resolve_left h3
    subst h1
    rcases ht with rfl | rfl | rfl
    · go_enter Tryz.func67, Tryz.ntmps67
      go_wp2
      exact bodyPost_ret (results_none rfl _ _ _) rfl ⟨rfl, rfl⟩
    · go_enter Tryz.func67, Tryz.ntmps67
      go_wp2
      exact bodyPost_ret (results_none rfl _ _ _) rfl ⟨rfl, rfl⟩
    · exact absurd rfl h3
theorem nin_own {v : Value} {g : Nat} (h : ∀ q, v.ownBlock = some q → q ≠ g) : g ∉ own v := by
  intro hm
  cases hv : v.ownBlock with
  | none => rw [own, hv] at hm; cases hm
  | some q => rw [own, hv] at hm; simp at hm; exact h q hv hm.symm

set_option maxHeartbeats 4000000 in
theorem heardTake_got2 (gs ls : List Nat) (hg : gs.length ≤ 1000) (vG vL : Value) (marks rtt : Int) (hm1 : 0 ≤ marks) (hm2 : marks ≤ 1000) (told : Int) (ht : told = 0 ∨ told = 1) (n : Nat) (t now : Int) (h0 : 0 ≤ t) (h1 : t ≤ now) (h2 : now ≤ 4611686018427387904) (H g o : Nat) (w : World) (hH : HrdAt gs ls vG vL marks rtt H w)
    (c0 : w.cell? ⟨g, o, none⟩ = some (.int .u64 n)) (c1 : w.cell? ⟨g, o + 1, none⟩ = some (.int .i64 t)) (c2 : w.cell? ⟨g, o + 2, none⟩ = some (.int .i64 0)) (f2 : w.frozen? ⟨g, o + 2, none⟩ = false) (hgH : g ≠ H) (hgv : ∀ q, vG.ownBlock = some q → q ≠ g) (hov : ∀ q, vL.ownBlock = some q → q ≠ g) (hlo : ∀ q, vL.ownBlock = some q → q < w.heap.size) :
    Calls Tryz.prog 67 #[.pointer (some ⟨H, 0, none⟩), .pointer (some ⟨g, o, none⟩), .int .i64 told, .int .i64 now] w fun e w' => ∃ q c W, e = .returned (.tuple #[]) ∧ w' = W.setCell ⟨g, o + 2, none⟩ (.int .i64 1) ∧ HrdAt (gs ++ [n]) ls (.slice (some ⟨q, 0, none⟩) (gs.length + 1) c) vL (marks + told) (now - t) H w' ∧ Kept (H :: own vG) w W ∧ (vG.ownBlock = some q ∨ w.heap.size ≤ q) := by
  obtain ⟨i0, hi, hz0, hz1, hz2⟩ := info_parts infoU64s
  have HS := Lib.hid (fun W => sentSince_any t now h0 h1 h2 W)
  have a0 : w.cell? ⟨H, 0, none⟩ = some vG := hH.blk.cell 0
  have a3 : w.cell? ⟨H, 3, none⟩ = some (.int .i64 marks) := hH.blk.cell 3
  have a4 : w.cell? ⟨H, 4, none⟩ = some (.int .i64 rtt) := hH.blk.cell 4
  have b0 := hH.blk.free 0
  have b3 := hH.blk.free 3
  have b4 := hH.blk.free 4
  have HH := Lib.hid hH
  clear hH
  have HHA : Hid (∀ W0, HrdAt gs ls vG vL (marks + told) rtt H W0 → Kept [H] w W0 → W0.cell? ⟨g, o, none⟩ = some (.int .u64 n) ∧ W0.cell? ⟨g, o + 1, none⟩ = some (.int .i64 t) ∧ W0.cell? ⟨g, o + 2, none⟩ = some (.int .i64 0) ∧ W0.frozen? ⟨g, o + 2, none⟩ = false) := Lib.hid (fun W0 _ k => by
    have hlt : g < w.heap.size := World.block_lt_of_cell? w _ c0
    have hn : g ∉ [H] := by simp; exact hgH
    exact ⟨(k.cell (p := ⟨g, o, none⟩) hlt hn).trans c0, (k.cell (p := ⟨g, o + 1, none⟩) hlt hn).trans c1, (k.cell (p := ⟨g, o + 2, none⟩) hlt hn).trans c2, (k.frozen (p := ⟨g, o + 2, none⟩) hlt hn).trans f2⟩)
  have hgHs : H ≠ g := fun e => hgH e.symm
  rcases ht with rfl | rfl
  · go_enter Tryz.func67, Tryz.ntmps67
    go_upto_region 5 with fail
    obtain ⟨W0, hW0⟩ : ∃ W0, W0 = w := ⟨_, rfl⟩
    have hk0 : Kept [H] w W0 := by rw [hW0]; exact Kept.refl _ _
    have hh0 : HrdAt gs ls vG vL (marks + 0) rtt H W0 := by rw [hW0, Int.add_zero]; exact HH.out
    rw [← hW0]
    obtain ⟨d0, d1, d2, e2⟩ := HHA.out W0 hh0 hk0
    clear hW0 c0 c1 c2 f2 a0 a3 a4 b0 b3 b4 HHA
    have a0 : W0.cell? ⟨H, 0, none⟩ = some vG := hh0.blk.cell 0
    have b0 := hh0.blk.free 0
    have HNG : Hid (g ∉ own vG ∧ H ∉ own vG) := Lib.hid ⟨nin_own hgv, nin_own HH.out.neG⟩
    have HLT : Hid (g < W0.heap.size ∧ H < W0.heap.size ∧ w.heap.size ≤ W0.heap.size) := Lib.hid ⟨World.block_lt_of_cell? W0 _ d0, hh0.blk.lt, hk0.size⟩
    have HRT : Hid (((W0.drewN 1).alloc (.cells #[.int .u64 n] 22)).ownsRow 0 22 1 vG gs.length (gs.map nuV)) := Lib.hid (ownsRow_keptC hh0.rowG (((Kept.refl [] W0).drewN 1).alloc _) (by simp))
    have HNW : Hid (∀ i u, [Value.int .u64 (n : Int)][i]? = some u → ((W0.drewN 1).alloc (.cells #[.int .u64 n] 22)).cell? ((⟨W0.heap.size, 0, none⟩ : Addr).add i) = some u) := Lib.hid (World.news_of_block (cs := #[.int .u64 n]) (fr := (0, 0)) (t := 22) (BlkIs.new #[.int .u64 n] 22 (W0.drewN 1)))
    have HH0 := Lib.hid hh0
    have HK0 := Lib.hid hk0
    have n0 : ∀ j o, ((W0.drewN j).alloc o).cell? ⟨H, 0, none⟩ = some vG := fun j o => (BlkIs.alloc (BlkIs.drewN HH0.out.blk j) o).cell 0
    have n1 : ∀ o, (W0.alloc o).cell? ⟨H, 0, none⟩ = some vG := fun o => (BlkIs.alloc HH0.out.blk o).cell 0
    clear hh0 hk0
    go_region_law (refine step_append_lies _ rfl (.tmp 48) (.tmp 53) 39 rfl 0 22 i0 (.int .u64 0) 1 8 Tryz.underlying39 hi hz0 hz1 hz2 rfl (by decide) vG gs.length (gs.map nuV) (by simp [Act.eval, Act.put]) HRT.out ⟨W0.heap.size, 0, none⟩ 1 1 [Value.int .u64 (n : Int)] (by simp [Act.eval, Act.put]) rfl HNW.out (by intro u hu; simp at hu; subst hu; rfl) (by decide) (by unfold maxLen; omega) (by omega) (Nat.zero_le _) _ rfl ?_; intro q c w1 hown hgrow hat hlt; have hk1 : Kept (own vG) W0 w1 := ((((Kept.refl (own vG) W0).drewN 1).alloc _).grown hgrow (fun q hq => .inl (by simp [own, hq]))); have hb1 := HH0.out.blk.kept hk1 HNG.out.2; have x0 : w1.cell? ⟨H, 0, none⟩ = some vG := BlkIs.cell hb1 0; have y0 := BlkIs.free hb1 0)
    all_goals (
      have hqg : q ≠ g := by
        rcases hat with h3 | h3
        · exact hgv q h3
        · have := HLT.out.1; simp at h3; omega
      have hqH : q ≠ H := by
        rcases hat with h3 | h3
        · exact HH.out.neG q h3
        · have := HLT.out.2.1; simp at h3; omega
      have hqo : ∀ r, vL.ownBlock = some r → q ≠ r := by
        intro r hr
        rcases hat with h3 | h3
        · exact HH.out.apart q h3 r hr
        · have := hlo r hr; have := HLT.out.2.2; simp at h3; omega
      have hro : ∀ r, vL.ownBlock = some r → r ∉ H :: own vG := by
        intro r hr hm
        rcases List.mem_cons.1 hm with h3 | h3
        · exact HH.out.neL r hr h3
        · exact nin_own (v := vG) (g := r) (fun q2 h4 => HH.out.apart q2 h4 r hr) h3
      obtain ⟨W2, hW2⟩ : ∃ W2, w1.setCell ⟨H, 0, none⟩ (.slice (some ⟨q, 0, none⟩) (gs.length + 1) c) = W2 := ⟨_, rfl⟩
      have kH : Kept [H] w1 W2 := by rw [← hW2]; exact (Kept.refl _ _).setCell (.inl (by simp)) _
      have hb2 : BlkIs #[.slice (some ⟨q, 0, none⟩) (gs.length + 1) c, vL, .slice none 0 0, .int .i64 (marks + 0), .int .i64 rtt] 41 H W2 := by rw [← hW2]; exact hb1.set 0 _
      have hr2 : W2.ownsRow 0 22 1 (.slice (some ⟨q, 0, none⟩) (gs.length + 1) c) (gs.length + 1) ((gs.map nuV) ++ [.int .u64 (n : Int)]) := by
        rw [← hW2]
        exact ownsRow_keptC hown ((Kept.refl [H] w1).setCell (.inl (by simp)) _) (fun q2 h3 => by
          have : q = q2 := by simpa [Value.ownBlock] using h3
          simp; omega)
      have hk2 : Kept (H :: own vG) w W2 := ((HK0.out.more (fun x hx => by simp at hx; simp [hx])).trans' (hk1.more (fun x hx => by simp [hx]))).trans' (kH.more (fun x hx => by simp at hx; simp [hx]))
      have kg1 : Kept (H :: own vG) W0 W2 := (hk1.more (fun x hx => by simp [hx])).trans' (kH.more (fun x hx => by simp at hx; simp [hx]))
      have hro2 : W2.ownsRow 0 22 1 vL ls.length (ls.map nuV) := ownsRow_keptC HH0.out.rowL kg1 hro
      have hgm : g ∉ H :: own vG := by
        intro hm
        rcases List.mem_cons.1 hm with h3 | h3
        · exact hgH h3
        · exact HNG.out.1 h3
      have z1 : W2.cell? ⟨g, o + 1, none⟩ = some (.int .i64 t) := (kg1.cell (p := ⟨g, o + 1, none⟩) HLT.out.1 hgm).trans d1
      have z2 : W2.cell? ⟨g, o + 2, none⟩ = some (.int .i64 0) := (kg1.cell (p := ⟨g, o + 2, none⟩) HLT.out.1 hgm).trans d2
      have zf : W2.frozen? ⟨g, o + 2, none⟩ = false := (kg1.frozen (p := ⟨g, o + 2, none⟩) HLT.out.1 hgm).trans e2
      have z4 : W2.cell? ⟨H, 4, none⟩ = some (.int .i64 rtt) := hb2.cell 4
      have zf4 := hb2.free 4
      rw [hW2]
      clear hW2 d0 d1 d2 e2 a0 b0 x0 y0 n0 n1
      go_wp2_with (go_at_call 101; (with_reducible refine (HS.out _).mono ?_); rintro e w5 ⟨rfl, rfl⟩)
      go_end0
      refine ⟨q, c, w5.setCell ⟨H, 4, none⟩ (.int .i64 (now - t)), rfl, rfl, ⟨(hb2.set 4 _).far (fun e => hgHs e) _, ?_, ?_, fun q2 h3 => ?_, HH.out.neL, fun q2 h3 r hr => ?_⟩, hk2.setCell (.inl (by simp)) _, ?_⟩
      · rw [List.length_append, List.map_append]
        exact ownsRow_keptC hr2 (((Kept.refl [H, g] w5).setCell (.inl (by simp)) _).setCell (.inl (by simp)) _) (fun q2 h3 => by
          have : q = q2 := by simpa [Value.ownBlock] using h3
          simp; omega)
      · exact ownsRow_keptC hro2 (((Kept.refl [H, g] w5).setCell (.inl (by simp)) _).setCell (.inl (by simp)) _) (fun q2 h3 => by have := HH.out.neL q2 h3; have := hov q2 h3; simp; omega)
      · have : q = q2 := by simpa [Value.ownBlock] using h3
        omega
      · have : q = q2 := by simpa [Value.ownBlock] using h3
        exact this ▸ hqo r hr
      · rcases hat with h3 | h3
        · exact .inl h3
        · right; have := HLT.out.2.2; simp at h3; omega)
  · go_enter Tryz.func67, Tryz.ntmps67
    go_upto_region 5 with fail
    obtain ⟨W0, hW0⟩ : ∃ W0, W0 = w.setCell ⟨H, 3, none⟩ (.int .i64 (marks + 1)) := ⟨_, rfl⟩
    have hk0 : Kept [H] w W0 := by rw [hW0]; exact (Kept.refl _ _).setCell (.inl (by simp)) _
    have hh0 : HrdAt gs ls vG vL (marks + 1) rtt H W0 := by
      refine ⟨?_, ownsRow_keptC HH.out.rowG hk0 (fun q h3 => by simp; exact HH.out.neG q h3), ownsRow_keptC HH.out.rowL hk0 (fun q h3 => by simp; exact HH.out.neL q h3), HH.out.neG, HH.out.neL, HH.out.apart⟩
      rw [hW0]; exact HH.out.blk.set 3 _
    rw [← hW0]
    obtain ⟨d0, d1, d2, e2⟩ := HHA.out W0 hh0 hk0
    clear hW0 c0 c1 c2 f2 a0 a3 a4 b0 b3 b4 HHA
    have a0 : W0.cell? ⟨H, 0, none⟩ = some vG := hh0.blk.cell 0
    have b0 := hh0.blk.free 0
    have HNG : Hid (g ∉ own vG ∧ H ∉ own vG) := Lib.hid ⟨nin_own hgv, nin_own HH.out.neG⟩
    have HLT : Hid (g < W0.heap.size ∧ H < W0.heap.size ∧ w.heap.size ≤ W0.heap.size) := Lib.hid ⟨World.block_lt_of_cell? W0 _ d0, hh0.blk.lt, hk0.size⟩
    have HRT : Hid (((W0.drewN 1).alloc (.cells #[.int .u64 n] 22)).ownsRow 0 22 1 vG gs.length (gs.map nuV)) := Lib.hid (ownsRow_keptC hh0.rowG (((Kept.refl [] W0).drewN 1).alloc _) (by simp))
    have HNW : Hid (∀ i u, [Value.int .u64 (n : Int)][i]? = some u → ((W0.drewN 1).alloc (.cells #[.int .u64 n] 22)).cell? ((⟨W0.heap.size, 0, none⟩ : Addr).add i) = some u) := Lib.hid (World.news_of_block (cs := #[.int .u64 n]) (fr := (0, 0)) (t := 22) (BlkIs.new #[.int .u64 n] 22 (W0.drewN 1)))
    have HH0 := Lib.hid hh0
    have HK0 := Lib.hid hk0
    have n0 : ∀ j o, ((W0.drewN j).alloc o).cell? ⟨H, 0, none⟩ = some vG := fun j o => (BlkIs.alloc (BlkIs.drewN HH0.out.blk j) o).cell 0
    have n1 : ∀ o, (W0.alloc o).cell? ⟨H, 0, none⟩ = some vG := fun o => (BlkIs.alloc HH0.out.blk o).cell 0
    clear hh0 hk0
    go_region_law (refine step_append_lies _ rfl (.tmp 48) (.tmp 53) 39 rfl 0 22 i0 (.int .u64 0) 1 8 Tryz.underlying39 hi hz0 hz1 hz2 rfl (by decide) vG gs.length (gs.map nuV) (by simp [Act.eval, Act.put]) HRT.out ⟨W0.heap.size, 0, none⟩ 1 1 [Value.int .u64 (n : Int)] (by simp [Act.eval, Act.put]) rfl HNW.out (by intro u hu; simp at hu; subst hu; rfl) (by decide) (by unfold maxLen; omega) (by omega) (Nat.zero_le _) _ rfl ?_; intro q c w1 hown hgrow hat hlt; have hk1 : Kept (own vG) W0 w1 := ((((Kept.refl (own vG) W0).drewN 1).alloc _).grown hgrow (fun q hq => .inl (by simp [own, hq]))); have hb1 := HH0.out.blk.kept hk1 HNG.out.2; have x0 : w1.cell? ⟨H, 0, none⟩ = some vG := BlkIs.cell hb1 0; have y0 := BlkIs.free hb1 0)
    all_goals (
      have hqg : q ≠ g := by
        rcases hat with h3 | h3
        · exact hgv q h3
        · have := HLT.out.1; simp at h3; omega
      have hqH : q ≠ H := by
        rcases hat with h3 | h3
        · exact HH.out.neG q h3
        · have := HLT.out.2.1; simp at h3; omega
      have hqo : ∀ r, vL.ownBlock = some r → q ≠ r := by
        intro r hr
        rcases hat with h3 | h3
        · exact HH.out.apart q h3 r hr
        · have := hlo r hr; have := HLT.out.2.2; simp at h3; omega
      have hro : ∀ r, vL.ownBlock = some r → r ∉ H :: own vG := by
        intro r hr hm
        rcases List.mem_cons.1 hm with h3 | h3
        · exact HH.out.neL r hr h3
        · exact nin_own (v := vG) (g := r) (fun q2 h4 => HH.out.apart q2 h4 r hr) h3
      obtain ⟨W2, hW2⟩ : ∃ W2, w1.setCell ⟨H, 0, none⟩ (.slice (some ⟨q, 0, none⟩) (gs.length + 1) c) = W2 := ⟨_, rfl⟩
      have kH : Kept [H] w1 W2 := by rw [← hW2]; exact (Kept.refl _ _).setCell (.inl (by simp)) _
      have hb2 : BlkIs #[.slice (some ⟨q, 0, none⟩) (gs.length + 1) c, vL, .slice none 0 0, .int .i64 (marks + 1), .int .i64 rtt] 41 H W2 := by rw [← hW2]; exact hb1.set 0 _
      have hr2 : W2.ownsRow 0 22 1 (.slice (some ⟨q, 0, none⟩) (gs.length + 1) c) (gs.length + 1) ((gs.map nuV) ++ [.int .u64 (n : Int)]) := by
        rw [← hW2]
        exact ownsRow_keptC hown ((Kept.refl [H] w1).setCell (.inl (by simp)) _) (fun q2 h3 => by
          have : q = q2 := by simpa [Value.ownBlock] using h3
          simp; omega)
      have hk2 : Kept (H :: own vG) w W2 := ((HK0.out.more (fun x hx => by simp at hx; simp [hx])).trans' (hk1.more (fun x hx => by simp [hx]))).trans' (kH.more (fun x hx => by simp at hx; simp [hx]))
      have kg1 : Kept (H :: own vG) W0 W2 := (hk1.more (fun x hx => by simp [hx])).trans' (kH.more (fun x hx => by simp at hx; simp [hx]))
      have hro2 : W2.ownsRow 0 22 1 vL ls.length (ls.map nuV) := ownsRow_keptC HH0.out.rowL kg1 hro
      have hgm : g ∉ H :: own vG := by
        intro hm
        rcases List.mem_cons.1 hm with h3 | h3
        · exact hgH h3
        · exact HNG.out.1 h3
      have z1 : W2.cell? ⟨g, o + 1, none⟩ = some (.int .i64 t) := (kg1.cell (p := ⟨g, o + 1, none⟩) HLT.out.1 hgm).trans d1
      have z2 : W2.cell? ⟨g, o + 2, none⟩ = some (.int .i64 0) := (kg1.cell (p := ⟨g, o + 2, none⟩) HLT.out.1 hgm).trans d2
      have zf : W2.frozen? ⟨g, o + 2, none⟩ = false := (kg1.frozen (p := ⟨g, o + 2, none⟩) HLT.out.1 hgm).trans e2
      have z4 : W2.cell? ⟨H, 4, none⟩ = some (.int .i64 rtt) := hb2.cell 4
      have zf4 := hb2.free 4
      rw [hW2]
      clear hW2 d0 d1 d2 e2 a0 b0 x0 y0 n0 n1
      go_wp2_with (go_at_call 101; (with_reducible refine (HS.out _).mono ?_); rintro e w5 ⟨rfl, rfl⟩)
      go_end0
      refine ⟨q, c, w5.setCell ⟨H, 4, none⟩ (.int .i64 (now - t)), rfl, rfl, ⟨(hb2.set 4 _).far (fun e => hgHs e) _, ?_, ?_, fun q2 h3 => ?_, HH.out.neL, fun q2 h3 r hr => ?_⟩, hk2.setCell (.inl (by simp)) _, ?_⟩
      · rw [List.length_append, List.map_append]
        exact ownsRow_keptC hr2 (((Kept.refl [H, g] w5).setCell (.inl (by simp)) _).setCell (.inl (by simp)) _) (fun q2 h3 => by
          have : q = q2 := by simpa [Value.ownBlock] using h3
          simp; omega)
      · exact ownsRow_keptC hro2 (((Kept.refl [H, g] w5).setCell (.inl (by simp)) _).setCell (.inl (by simp)) _) (fun q2 h3 => by have := HH.out.neL q2 h3; have := hov q2 h3; simp; omega)
      · have : q = q2 := by simpa [Value.ownBlock] using h3
        omega
      · have : q = q2 := by simpa [Value.ownBlock] using h3
        exact this ▸ hqo r hr
      · rcases hat with h3 | h3
        · exact .inl h3
        · right; have := HLT.out.2.2; simp at h3; omega)

set_option maxHeartbeats 4000000 in
theorem heardTake_late (gs ls : List Nat) (hg : ls.length ≤ 1000) (vG vL : Value) (marks rtt : Int) (hm1 : 0 ≤ marks) (hm2 : marks ≤ 1000) (told : Int) (ht : told = 0 ∨ told = 1) (n : Nat) (t now : Int) (h0 : 0 ≤ t) (h1 : t ≤ now) (h2 : now ≤ 4611686018427387904) (H g o : Nat) (w : World) (hH : HrdAt gs ls vG vL marks rtt H w)
    (c0 : w.cell? ⟨g, o, none⟩ = some (.int .u64 n)) (c1 : w.cell? ⟨g, o + 1, none⟩ = some (.int .i64 t)) (c2 : w.cell? ⟨g, o + 2, none⟩ = some (.int .i64 2)) (f2 : w.frozen? ⟨g, o + 2, none⟩ = false) (hgH : g ≠ H) (hgv : ∀ q, vL.ownBlock = some q → q ≠ g) (hov : ∀ q, vG.ownBlock = some q → q ≠ g) (hlo : ∀ q, vG.ownBlock = some q → q < w.heap.size) :
    Calls Tryz.prog 67 #[.pointer (some ⟨H, 0, none⟩), .pointer (some ⟨g, o, none⟩), .int .i64 told, .int .i64 now] w fun e w' => ∃ q c W, e = .returned (.tuple #[]) ∧ w' = W.setCell ⟨g, o + 2, none⟩ (.int .i64 1) ∧ HrdAt gs (ls ++ [n]) vG (.slice (some ⟨q, 0, none⟩) (ls.length + 1) c) (marks + told) rtt H w' ∧ Kept (H :: own vL) w W ∧ (vL.ownBlock = some q ∨ w.heap.size ≤ q) := by
  obtain ⟨i0, hi, hz0, hz1, hz2⟩ := info_parts infoU64s
  have HS := Lib.hid (fun W => sentSince_any t now h0 h1 h2 W)
  have a0 : w.cell? ⟨H, 1, none⟩ = some vL := hH.blk.cell 1
  have a3 : w.cell? ⟨H, 3, none⟩ = some (.int .i64 marks) := hH.blk.cell 3
  have a4 : w.cell? ⟨H, 4, none⟩ = some (.int .i64 rtt) := hH.blk.cell 4
  have b0 := hH.blk.free 1
  have b3 := hH.blk.free 3
  have b4 := hH.blk.free 4
  have HH := Lib.hid hH
  clear hH
  have HHA : Hid (∀ W0, HrdAt gs ls vG vL (marks + told) rtt H W0 → Kept [H] w W0 → W0.cell? ⟨g, o, none⟩ = some (.int .u64 n) ∧ W0.cell? ⟨g, o + 1, none⟩ = some (.int .i64 t) ∧ W0.cell? ⟨g, o + 2, none⟩ = some (.int .i64 2) ∧ W0.frozen? ⟨g, o + 2, none⟩ = false) := Lib.hid (fun W0 _ k => by
    have hlt : g < w.heap.size := World.block_lt_of_cell? w _ c0
    have hn : g ∉ [H] := by simp; exact hgH
    exact ⟨(k.cell (p := ⟨g, o, none⟩) hlt hn).trans c0, (k.cell (p := ⟨g, o + 1, none⟩) hlt hn).trans c1, (k.cell (p := ⟨g, o + 2, none⟩) hlt hn).trans c2, (k.frozen (p := ⟨g, o + 2, none⟩) hlt hn).trans f2⟩)
  have hgHs : H ≠ g := fun e => hgH e.symm
  rcases ht with rfl | rfl
  · go_enter Tryz.func67, Tryz.ntmps67
    go_upto_region 4 with fail
    obtain ⟨W0, hW0⟩ : ∃ W0, W0 = w := ⟨_, rfl⟩
    have hk0 : Kept [H] w W0 := by rw [hW0]; exact Kept.refl _ _
    have hh0 : HrdAt gs ls vG vL (marks + 0) rtt H W0 := by rw [hW0, Int.add_zero]; exact HH.out
    rw [← hW0]
    obtain ⟨d0, d1, d2, e2⟩ := HHA.out W0 hh0 hk0
    clear hW0 c0 c1 c2 f2 a0 a3 a4 b0 b3 b4 HHA
    have a0 : W0.cell? ⟨H, 1, none⟩ = some vL := hh0.blk.cell 1
    have b0 := hh0.blk.free 1
    have HNG : Hid (g ∉ own vL ∧ H ∉ own vL) := Lib.hid ⟨nin_own hgv, nin_own HH.out.neL⟩
    have HLT : Hid (g < W0.heap.size ∧ H < W0.heap.size ∧ w.heap.size ≤ W0.heap.size) := Lib.hid ⟨World.block_lt_of_cell? W0 _ d0, hh0.blk.lt, hk0.size⟩
    have HRT : Hid (((W0.drewN 1).alloc (.cells #[.int .u64 n] 22)).ownsRow 0 22 1 vL ls.length (ls.map nuV)) := Lib.hid (ownsRow_keptC hh0.rowL (((Kept.refl [] W0).drewN 1).alloc _) (by simp))
    have HNW : Hid (∀ i u, [Value.int .u64 (n : Int)][i]? = some u → ((W0.drewN 1).alloc (.cells #[.int .u64 n] 22)).cell? ((⟨W0.heap.size, 0, none⟩ : Addr).add i) = some u) := Lib.hid (World.news_of_block (cs := #[.int .u64 n]) (fr := (0, 0)) (t := 22) (BlkIs.new #[.int .u64 n] 22 (W0.drewN 1)))
    have HH0 := Lib.hid hh0
    have HK0 := Lib.hid hk0
    have n0 : ∀ j o, ((W0.drewN j).alloc o).cell? ⟨H, 1, none⟩ = some vL := fun j o => (BlkIs.alloc (BlkIs.drewN HH0.out.blk j) o).cell 1
    have n1 : ∀ o, (W0.alloc o).cell? ⟨H, 1, none⟩ = some vL := fun o => (BlkIs.alloc HH0.out.blk o).cell 1
    clear hh0 hk0
    go_region_law (refine step_append_lies _ rfl (.tmp 35) (.tmp 40) 39 rfl 0 22 i0 (.int .u64 0) 1 8 Tryz.underlying39 hi hz0 hz1 hz2 rfl (by decide) vL ls.length (ls.map nuV) (by simp [Act.eval, Act.put]) HRT.out ⟨W0.heap.size, 0, none⟩ 1 1 [Value.int .u64 (n : Int)] (by simp [Act.eval, Act.put]) rfl HNW.out (by intro u hu; simp at hu; subst hu; rfl) (by decide) (by unfold maxLen; omega) (by omega) (Nat.zero_le _) _ rfl ?_; intro q c w1 hown hgrow hat hlt; have hk1 : Kept (own vL) W0 w1 := ((((Kept.refl (own vL) W0).drewN 1).alloc _).grown hgrow (fun q hq => .inl (by simp [own, hq]))); have hb1 := HH0.out.blk.kept hk1 HNG.out.2; have x0 : w1.cell? ⟨H, 1, none⟩ = some vL := BlkIs.cell hb1 1; have y0 := BlkIs.free hb1 1)
    all_goals (
      have hqg : q ≠ g := by
        rcases hat with h3 | h3
        · exact hgv q h3
        · have := HLT.out.1; simp at h3; omega
      have hqH : q ≠ H := by
        rcases hat with h3 | h3
        · exact HH.out.neL q h3
        · have := HLT.out.2.1; simp at h3; omega
      have hqo : ∀ r, vG.ownBlock = some r → q ≠ r := by
        intro r hr
        rcases hat with h3 | h3
        · exact fun e => HH.out.apart r hr q h3 e.symm
        · have := hlo r hr; have := HLT.out.2.2; simp at h3; omega
      have hro : ∀ r, vG.ownBlock = some r → r ∉ H :: own vL := by
        intro r hr hm
        rcases List.mem_cons.1 hm with h3 | h3
        · exact HH.out.neG r hr h3
        · exact nin_own (v := vL) (g := r) (fun q2 h4 => fun e => HH.out.apart r hr q2 h4 e.symm) h3
      obtain ⟨W2, hW2⟩ : ∃ W2, w1.setCell ⟨H, 1, none⟩ (.slice (some ⟨q, 0, none⟩) (ls.length + 1) c) = W2 := ⟨_, rfl⟩
      have kH : Kept [H] w1 W2 := by rw [← hW2]; exact (Kept.refl _ _).setCell (.inl (by simp)) _
      have hb2 : BlkIs #[vG, .slice (some ⟨q, 0, none⟩) (ls.length + 1) c, .slice none 0 0, .int .i64 (marks + 0), .int .i64 rtt] 41 H W2 := by rw [← hW2]; exact hb1.set 1 _
      have hr2 : W2.ownsRow 0 22 1 (.slice (some ⟨q, 0, none⟩) (ls.length + 1) c) (ls.length + 1) ((ls.map nuV) ++ [.int .u64 (n : Int)]) := by
        rw [← hW2]
        exact ownsRow_keptC hown ((Kept.refl [H] w1).setCell (.inl (by simp)) _) (fun q2 h3 => by
          have : q = q2 := by simpa [Value.ownBlock] using h3
          simp; omega)
      have hk2 : Kept (H :: own vL) w W2 := ((HK0.out.more (fun x hx => by simp at hx; simp [hx])).trans' (hk1.more (fun x hx => by simp [hx]))).trans' (kH.more (fun x hx => by simp at hx; simp [hx]))
      have kg1 : Kept (H :: own vL) W0 W2 := (hk1.more (fun x hx => by simp [hx])).trans' (kH.more (fun x hx => by simp at hx; simp [hx]))
      have hro2 : W2.ownsRow 0 22 1 vG gs.length (gs.map nuV) := ownsRow_keptC HH0.out.rowG kg1 hro
      have hgm : g ∉ H :: own vL := by
        intro hm
        rcases List.mem_cons.1 hm with h3 | h3
        · exact hgH h3
        · exact HNG.out.1 h3
      have z1 : W2.cell? ⟨g, o + 1, none⟩ = some (.int .i64 t) := (kg1.cell (p := ⟨g, o + 1, none⟩) HLT.out.1 hgm).trans d1
      have z2 : W2.cell? ⟨g, o + 2, none⟩ = some (.int .i64 2) := (kg1.cell (p := ⟨g, o + 2, none⟩) HLT.out.1 hgm).trans d2
      have zf : W2.frozen? ⟨g, o + 2, none⟩ = false := (kg1.frozen (p := ⟨g, o + 2, none⟩) HLT.out.1 hgm).trans e2
      have z4 : W2.cell? ⟨H, 4, none⟩ = some (.int .i64 rtt) := hb2.cell 4
      have zf4 := hb2.free 4
      rw [hW2]
      clear hW2 d0 d1 d2 e2 a0 b0 x0 y0 n0 n1
      go_wp2
      go_end0
      refine ⟨q, c, W2, rfl, rfl, ⟨hb2.far (fun e => hgHs e) _, ?_, ?_, HH.out.neG, fun q2 h3 => ?_, fun q2 h3 r hr => ?_⟩, hk2, ?_⟩
      · exact ownsRow_keptC hro2 ((Kept.refl [g] W2).setCell (.inl (by simp)) _) (fun q2 h3 => by have := hov q2 h3; simp; omega)
      · rw [List.length_append, List.map_append]
        exact ownsRow_keptC hr2 ((Kept.refl [g] W2).setCell (.inl (by simp)) _) (fun q2 h3 => by
          have : q = q2 := by simpa [Value.ownBlock] using h3
          simp; omega)
      · have : q = q2 := by simpa [Value.ownBlock] using h3
        omega
      · have : q = r := by simpa [Value.ownBlock] using hr
        exact fun e => hqo q2 h3 (this.trans e.symm)
      · rcases hat with h3 | h3
        · exact .inl h3
        · right; have := HLT.out.2.2; simp at h3; omega)
  · go_enter Tryz.func67, Tryz.ntmps67
    go_upto_region 4 with fail
    obtain ⟨W0, hW0⟩ : ∃ W0, W0 = w.setCell ⟨H, 3, none⟩ (.int .i64 (marks + 1)) := ⟨_, rfl⟩
    have hk0 : Kept [H] w W0 := by rw [hW0]; exact (Kept.refl _ _).setCell (.inl (by simp)) _
    have hh0 : HrdAt gs ls vG vL (marks + 1) rtt H W0 := by
      refine ⟨?_, ownsRow_keptC HH.out.rowG hk0 (fun q h3 => by simp; exact HH.out.neG q h3), ownsRow_keptC HH.out.rowL hk0 (fun q h3 => by simp; exact HH.out.neL q h3), HH.out.neG, HH.out.neL, HH.out.apart⟩
      rw [hW0]; exact HH.out.blk.set 3 _
    rw [← hW0]
    obtain ⟨d0, d1, d2, e2⟩ := HHA.out W0 hh0 hk0
    clear hW0 c0 c1 c2 f2 a0 a3 a4 b0 b3 b4 HHA
    have a0 : W0.cell? ⟨H, 1, none⟩ = some vL := hh0.blk.cell 1
    have b0 := hh0.blk.free 1
    have HNG : Hid (g ∉ own vL ∧ H ∉ own vL) := Lib.hid ⟨nin_own hgv, nin_own HH.out.neL⟩
    have HLT : Hid (g < W0.heap.size ∧ H < W0.heap.size ∧ w.heap.size ≤ W0.heap.size) := Lib.hid ⟨World.block_lt_of_cell? W0 _ d0, hh0.blk.lt, hk0.size⟩
    have HRT : Hid (((W0.drewN 1).alloc (.cells #[.int .u64 n] 22)).ownsRow 0 22 1 vL ls.length (ls.map nuV)) := Lib.hid (ownsRow_keptC hh0.rowL (((Kept.refl [] W0).drewN 1).alloc _) (by simp))
    have HNW : Hid (∀ i u, [Value.int .u64 (n : Int)][i]? = some u → ((W0.drewN 1).alloc (.cells #[.int .u64 n] 22)).cell? ((⟨W0.heap.size, 0, none⟩ : Addr).add i) = some u) := Lib.hid (World.news_of_block (cs := #[.int .u64 n]) (fr := (0, 0)) (t := 22) (BlkIs.new #[.int .u64 n] 22 (W0.drewN 1)))
    have HH0 := Lib.hid hh0
    have HK0 := Lib.hid hk0
    have n0 : ∀ j o, ((W0.drewN j).alloc o).cell? ⟨H, 1, none⟩ = some vL := fun j o => (BlkIs.alloc (BlkIs.drewN HH0.out.blk j) o).cell 1
    have n1 : ∀ o, (W0.alloc o).cell? ⟨H, 1, none⟩ = some vL := fun o => (BlkIs.alloc HH0.out.blk o).cell 1
    clear hh0 hk0
    go_region_law (refine step_append_lies _ rfl (.tmp 35) (.tmp 40) 39 rfl 0 22 i0 (.int .u64 0) 1 8 Tryz.underlying39 hi hz0 hz1 hz2 rfl (by decide) vL ls.length (ls.map nuV) (by simp [Act.eval, Act.put]) HRT.out ⟨W0.heap.size, 0, none⟩ 1 1 [Value.int .u64 (n : Int)] (by simp [Act.eval, Act.put]) rfl HNW.out (by intro u hu; simp at hu; subst hu; rfl) (by decide) (by unfold maxLen; omega) (by omega) (Nat.zero_le _) _ rfl ?_; intro q c w1 hown hgrow hat hlt; have hk1 : Kept (own vL) W0 w1 := ((((Kept.refl (own vL) W0).drewN 1).alloc _).grown hgrow (fun q hq => .inl (by simp [own, hq]))); have hb1 := HH0.out.blk.kept hk1 HNG.out.2; have x0 : w1.cell? ⟨H, 1, none⟩ = some vL := BlkIs.cell hb1 1; have y0 := BlkIs.free hb1 1)
    all_goals (
      have hqg : q ≠ g := by
        rcases hat with h3 | h3
        · exact hgv q h3
        · have := HLT.out.1; simp at h3; omega
      have hqH : q ≠ H := by
        rcases hat with h3 | h3
        · exact HH.out.neL q h3
        · have := HLT.out.2.1; simp at h3; omega
      have hqo : ∀ r, vG.ownBlock = some r → q ≠ r := by
        intro r hr
        rcases hat with h3 | h3
        · exact fun e => HH.out.apart r hr q h3 e.symm
        · have := hlo r hr; have := HLT.out.2.2; simp at h3; omega
      have hro : ∀ r, vG.ownBlock = some r → r ∉ H :: own vL := by
        intro r hr hm
        rcases List.mem_cons.1 hm with h3 | h3
        · exact HH.out.neG r hr h3
        · exact nin_own (v := vL) (g := r) (fun q2 h4 => fun e => HH.out.apart r hr q2 h4 e.symm) h3
      obtain ⟨W2, hW2⟩ : ∃ W2, w1.setCell ⟨H, 1, none⟩ (.slice (some ⟨q, 0, none⟩) (ls.length + 1) c) = W2 := ⟨_, rfl⟩
      have kH : Kept [H] w1 W2 := by rw [← hW2]; exact (Kept.refl _ _).setCell (.inl (by simp)) _
      have hb2 : BlkIs #[vG, .slice (some ⟨q, 0, none⟩) (ls.length + 1) c, .slice none 0 0, .int .i64 (marks + 1), .int .i64 rtt] 41 H W2 := by rw [← hW2]; exact hb1.set 1 _
      have hr2 : W2.ownsRow 0 22 1 (.slice (some ⟨q, 0, none⟩) (ls.length + 1) c) (ls.length + 1) ((ls.map nuV) ++ [.int .u64 (n : Int)]) := by
        rw [← hW2]
        exact ownsRow_keptC hown ((Kept.refl [H] w1).setCell (.inl (by simp)) _) (fun q2 h3 => by
          have : q = q2 := by simpa [Value.ownBlock] using h3
          simp; omega)
      have hk2 : Kept (H :: own vL) w W2 := ((HK0.out.more (fun x hx => by simp at hx; simp [hx])).trans' (hk1.more (fun x hx => by simp [hx]))).trans' (kH.more (fun x hx => by simp at hx; simp [hx]))
      have kg1 : Kept (H :: own vL) W0 W2 := (hk1.more (fun x hx => by simp [hx])).trans' (kH.more (fun x hx => by simp at hx; simp [hx]))
      have hro2 : W2.ownsRow 0 22 1 vG gs.length (gs.map nuV) := ownsRow_keptC HH0.out.rowG kg1 hro
      have hgm : g ∉ H :: own vL := by
        intro hm
        rcases List.mem_cons.1 hm with h3 | h3
        · exact hgH h3
        · exact HNG.out.1 h3
      have z1 : W2.cell? ⟨g, o + 1, none⟩ = some (.int .i64 t) := (kg1.cell (p := ⟨g, o + 1, none⟩) HLT.out.1 hgm).trans d1
      have z2 : W2.cell? ⟨g, o + 2, none⟩ = some (.int .i64 2) := (kg1.cell (p := ⟨g, o + 2, none⟩) HLT.out.1 hgm).trans d2
      have zf : W2.frozen? ⟨g, o + 2, none⟩ = false := (kg1.frozen (p := ⟨g, o + 2, none⟩) HLT.out.1 hgm).trans e2
      have z4 : W2.cell? ⟨H, 4, none⟩ = some (.int .i64 rtt) := hb2.cell 4
      have zf4 := hb2.free 4
      rw [hW2]
      clear hW2 d0 d1 d2 e2 a0 b0 x0 y0 n0 n1
      go_wp2
      go_end0
      refine ⟨q, c, W2, rfl, rfl, ⟨hb2.far (fun e => hgHs e) _, ?_, ?_, HH.out.neG, fun q2 h3 => ?_, fun q2 h3 r hr => ?_⟩, hk2, ?_⟩
      · exact ownsRow_keptC hro2 ((Kept.refl [g] W2).setCell (.inl (by simp)) _) (fun q2 h3 => by have := hov q2 h3; simp; omega)
      · rw [List.length_append, List.map_append]
        exact ownsRow_keptC hr2 ((Kept.refl [g] W2).setCell (.inl (by simp)) _) (fun q2 h3 => by
          have : q = q2 := by simpa [Value.ownBlock] using h3
          simp; omega)
      · have : q = q2 := by simpa [Value.ownBlock] using h3
        omega
      · have : q = r := by simpa [Value.ownBlock] using hr
        exact fun e => hqo q2 h3 (this.trans e.symm)
      · rcases hat with h3 | h3
        · exact .inl h3
        · right; have := HLT.out.2.2; simp at h3; omega)
end Go.Proofs.YtkpginmdnlhfbaaGreatDoor

namespace Go.Proofs.YtkpginmdnlhfbaaGreatDoor
open Go.ChangeShapes Go.WideShapes Go.ChangeAt Go.RowKit Go.Shelf
attribute [local go_sem] Oper.semAt_some
set_option linter.unusedVariables false
set_option linter.unusedSimpArgs false

/-- A record that q is told of. -/
def M.takeR (q : Int) (r : Rec) : Rec := if q = 3 ∨ r.2.2 = 1 then r else (r.1, r.2.1, 1)
def M.takeG (q : Int) (r : Rec) : List Nat := if q = 3 ∨ r.2.2 = 1 ∨ r.2.2 = 2 then [] else [r.1]
def M.takeL (q : Int) (r : Rec) : List Nat := if q = 3 ∨ r.2.2 = 1 ∨ ¬ r.2.2 = 2 then [] else [r.1]
def M.takeM (q : Int) (r : Rec) : Int := if q = 3 ∨ r.2.2 = 1 then 0 else q
def M.takeT (q now : Int) (r : Rec) (t0 : Int) : Int := if q = 3 ∨ r.2.2 = 1 ∨ r.2.2 = 2 then t0 else now - r.2.1
structure HrS where
  recs : List Rec
  gs : List Nat
  ls : List Nat
  marks : Int
  rtt : Int
def HrS.step (q : Rec → Int) (now : Int) (s : HrS) (k : Nat) : HrS :=
  ⟨s.recs.set k (M.takeR (q (s.recs.getD k (0, 0, 0))) (s.recs.getD k (0, 0, 0))), s.gs ++ M.takeG (q (s.recs.getD k (0, 0, 0))) (s.recs.getD k (0, 0, 0)), s.ls ++ M.takeL (q (s.recs.getD k (0, 0, 0))) (s.recs.getD k (0, 0, 0)), s.marks + M.takeM (q (s.recs.getD k (0, 0, 0))) (s.recs.getD k (0, 0, 0)), M.takeT (q (s.recs.getD k (0, 0, 0))) now (s.recs.getD k (0, 0, 0)) s.rtt⟩
def HrS.upto (q : Rec → Int) (now : Int) (L : List Rec) : Nat → HrS
  | 0 => ⟨L, [], [], 0, -1⟩
  | k + 1 => (HrS.upto q now L k).step q now k
theorem HrS.upto_len (q : Rec → Int) (now : Int) (L : List Rec) (k : Nat) : (HrS.upto q now L k).recs.length = L.length := by
  induction k with
  | zero => rfl
  | succ k ih => show ((HrS.upto q now L k).recs.set k _).length = _; rw [List.length_set]; exact ih
/-- What is still to come is as it was; what was heard of is turned. -/
theorem HrS.upto_get (q : Rec → Int) (now : Int) (L : List Rec) (k i : Nat) (hi : i < L.length) : (HrS.upto q now L k).recs.getD i (0, 0, 0) = if i < k then M.takeR (q (L.getD i (0, 0, 0))) (L.getD i (0, 0, 0)) else L.getD i (0, 0, 0) := by
  induction k with
  | zero => rw [if_neg (by omega)]; rfl
  | succ k ih =>
    have hl := HrS.upto_len q now L k
    show ((HrS.upto q now L k).recs.set k _).getD i (0, 0, 0) = _
    rw [List.getD_eq_getElem?_getD, List.getElem?_set]
    by_cases e : k = i
    · subst e
      rw [if_pos rfl, if_pos (by omega), if_pos (by omega), ih, if_neg (by omega)]
      rfl
    · rw [if_neg e, ← List.getD_eq_getElem?_getD, ih]
      by_cases h2 : i < k
      · rw [if_pos h2, if_pos (by omega)]
      · rw [if_neg h2, if_neg (by omega)]
theorem HrS.upto_at (q : Rec → Int) (now : Int) (L : List Rec) (k : Nat) (hk : k < L.length) : (HrS.upto q now L k).recs[k]? = some (L.getD k (0, 0, 0)) := by
  have h1 := HrS.upto_get q now L k k hk
  rw [if_neg (by omega)] at h1
  have hl := HrS.upto_len q now L k
  rw [List.getD_eq_getElem?_getD, List.getElem?_eq_getElem (by omega)] at h1
  rw [List.getElem?_eq_getElem (by omega)]
  exact congrArg some h1
theorem HrS.upto_gs (q : Rec → Int) (now : Int) (L : List Rec) (k : Nat) : (HrS.upto q now L k).gs.length ≤ k ∧ (HrS.upto q now L k).ls.length ≤ k := by
  induction k with
  | zero => exact ⟨Nat.le_refl _, Nat.le_refl _⟩
  | succ k ih =>
    have a : ∀ q r, (M.takeG q r).length ≤ 1 := fun q r => by unfold M.takeG; split <;> simp
    have b : ∀ q r, (M.takeL q r).length ≤ 1 := fun q r => by unfold M.takeL; split <;> simp
    constructor
    · show ((HrS.upto q now L k).gs ++ _).length ≤ _
      rw [List.length_append]; have := a (q ((HrS.upto q now L k).recs.getD k (0, 0, 0))) ((HrS.upto q now L k).recs.getD k (0, 0, 0)); omega
    · show ((HrS.upto q now L k).ls ++ _).length ≤ _
      rw [List.length_append]; have := b (q ((HrS.upto q now L k).recs.getD k (0, 0, 0))) ((HrS.upto q now L k).recs.getD k (0, 0, 0)); omega
theorem HrS.upto_marks (q : Rec → Int) (hq : ∀ r, q r = 0 ∨ q r = 1 ∨ q r = 3) (now : Int) (L : List Rec) (k : Nat) : 0 ≤ (HrS.upto q now L k).marks ∧ (HrS.upto q now L k).marks ≤ k := by
  induction k with
  | zero => exact ⟨Int.le_refl _, Int.le_refl _⟩
  | succ k ih =>
    have a : ∀ r, 0 ≤ M.takeM (q r) r ∧ M.takeM (q r) r ≤ 1 := fun r => by
      unfold M.takeM
      have := hq r
      split <;> omega
    have := a ((HrS.upto q now L k).recs.getD k (0, 0, 0))
    show 0 ≤ (HrS.upto q now L k).marks + _ ∧ (HrS.upto q now L k).marks + _ ≤ _
    omega
/-- Hear's loop, so far. -/
structure HearJ (s : HrS) (C g c H S0 B : Nat) (vT : Value) (T : List Int) (w5 wr : World) : Prop where
  recs : RecsAt s.recs C g c wr
  heard : ∃ vG vL, HrdAt s.gs s.ls vG vL s.marks s.rtt H wr ∧ (∀ q, vG.ownBlock = some q → S0 ≤ q) ∧ (∀ q, vL.ownBlock = some q → S0 ≤ q)
  told : wr.ownsRow B 3 1 vT T.length (T.map i64V)
  kept : Kept [H, g] w5 wr
theorem HearJ.drew {s : HrS} {C g c H S0 B : Nat} {vT : Value} {T : List Int} {w5 wr : World} (h : HearJ s C g c H S0 B vT T w5 wr) (n : Nat) : HearJ s C g c H S0 B vT T w5 (wr.drewN n) := by
  obtain ⟨vG, vL, h1, h2, h3⟩ := h.heard
  exact ⟨h.recs.below (bel_drewN wr n), ⟨vG, vL, h1.drewN n, h2, h3⟩, ownsRow_keptC h.told ((Kept.refl [] wr).drewN n) (by simp), h.kept.drewN n⟩
theorem ownS {v : Value} {S0 x : Nat} (h : ∀ q, v.ownBlock = some q → S0 ≤ q) (hx : x ∈ own v) : S0 ≤ x := by
  cases hv : v.ownBlock with
  | none => rw [own, hv] at hx; cases hx
  | some q => rw [own, hv] at hx; simp at hx; subst hx; exact h _ hv
/-- What take leaves behind: Got or Late has one more, in the row v2. -/
theorem HearJ.turned {s s2 : HrS} {C g c H S0 B j n : Nat} {t st : Int} {vT v vG2 vL2 : Value} {T : List Int} {w5 wr W w' : World} (h : HearJ s C g c H S0 B vT T w5 wr) (hS : w5.heap.size = S0) (hB : H < B ∧ g < B ∧ C ≠ H ∧ C < S0 ∧ g ≠ H ∧ g < S0)
    (hv : ∀ q, v.ownBlock = some q → S0 ≤ q) (hj : s.recs[j]? = some (n, t, st)) (hl2 : s2.recs = s.recs.set j (n, t, 1))
    (hw : w' = W.setCell ⟨g, j * 3 + 2, none⟩ (.int .i64 1)) (hh : HrdAt s2.gs s2.ls vG2 vL2 s2.marks s2.rtt H w') (hk : Kept (H :: own v) wr W) (h2G : ∀ q, vG2.ownBlock = some q → S0 ≤ q) (h2L : ∀ q, vL2.ownBlock = some q → S0 ≤ q) (hTS : ∀ b, vT.ownBlock = some b → B ≤ b ∧ b < S0) : HearJ s2 C g c H S0 B vT T w5 w' := by
  have hsz := h.kept.size
  have hCn : C ∉ H :: own v := by
    intro hm
    rcases List.mem_cons.1 hm with e | e
    · exact hB.2.2.1 e
    · have := ownS hv e; omega
  have hgn : g ∉ H :: own v := by
    intro hm
    rcases List.mem_cons.1 hm with e | e
    · exact hB.2.2.2.2.1 e
    · have := ownS hv e; omega
  refine ⟨?_, ⟨vG2, vL2, hh, h2G, h2L⟩, ?_, ?_⟩
  · rw [hw, hl2]
    exact (h.recs.kept hk hCn hgn).setSt j n t st 1 hj
  · rw [hw]
    refine ownsRow_keptC (ownsRow_keptC h.told hk (fun b hb hm => ?_)) ((Kept.refl [g] W).setCell (.inl (by simp)) _) (fun b hb => by have := hTS b hb; simp; omega)
    have := hTS b hb
    rcases List.mem_cons.1 hm with e | e
    · omega
    · have := ownS hv e; omega
  · rw [hw]
    refine (h.kept.trans hk (fun x hx => ?_)).setCell (.inl (by simp)) _
    rcases List.mem_cons.1 hx with e | e
    · left; simp [e]
    · right; have := ownS hv e; omega
/-- A round's take, of whatever record and whatever was told of it. -/
theorem hearJ_take (q : Rec → Int) (hq : ∀ r, q r = 0 ∨ q r = 1 ∨ q r = 3) (L : List Rec) (hL : L.length ≤ 200) (now : Int) (hnow : now ≤ 4611686018427387904) (hat : ∀ r ∈ L, 0 ≤ r.2.1 ∧ r.2.1 ≤ now ∧ (r.2.2 = 0 ∨ r.2.2 = 1 ∨ r.2.2 = 2))
    (k : Nat) (hk : k < L.length) (C g c H S0 B : Nat) (vT : Value) (T : List Int) (w5 wr : World) (h : HearJ (HrS.upto q now L k) C g c H S0 B vT T w5 wr) (hS : w5.heap.size = S0) (hB : H < B ∧ g < B ∧ C ≠ H ∧ C < S0 ∧ g ≠ H ∧ g < S0) (hTS : ∀ b, vT.ownBlock = some b → B ≤ b ∧ b < S0) :
    Calls Tryz.prog 67 #[.pointer (some ⟨H, 0, none⟩), .pointer (some ⟨g, k * 3, none⟩), .int .i64 (q (L.getD k (0, 0, 0))), .int .i64 now] wr fun e w' => e = .returned (.tuple #[]) ∧ HearJ (HrS.upto q now L (k + 1)) C g c H S0 B vT T w5 w' := by
  obtain ⟨⟨n, t, st⟩, hr⟩ : ∃ r, L.getD k (0, 0, 0) = r := ⟨_, rfl⟩
  have hmem : L.getD k (0, 0, 0) ∈ L := by rw [List.getD_eq_getElem?_getD, List.getElem?_eq_getElem hk]; exact List.getElem_mem hk
  have hb := hat _ hmem
  have hqr := hq (L.getD k (0, 0, 0))
  have hat' := HrS.upto_at q now L k hk
  have hgd : (HrS.upto q now L k).recs.getD k (0, 0, 0) = L.getD k (0, 0, 0) := by rw [HrS.upto_get q now L k k hk, if_neg (by omega)]
  have hup : HrS.upto q now L (k + 1) = (HrS.upto q now L k).step q now k := rfl
  obtain ⟨hgl, hll⟩ := HrS.upto_gs q now L k
  obtain ⟨hm1, hm2⟩ := HrS.upto_marks q hq now L k
  unfold HrS.step at hup
  rw [hgd] at hup
  rw [hr] at hat' hup hqr hb ⊢
  obtain ⟨told, htold⟩ : ∃ z, q (n, t, st) = z := ⟨_, rfl⟩
  rw [htold] at hup hqr ⊢
  generalize HrS.upto q now L k = s at *
  rw [hup]
  clear hup
  obtain ⟨h0, h1, h2⟩ := hb
  simp only at h0 h1 h2
  have hrow := h.recs.row k _ hat'
  by_cases hn : told = 3 ∨ st = 1
  · refine (heardTake_none2 told hqr H g (k * 3) now st hn wr hrow.2.2).mono ?_
    rintro e w' ⟨rfl, rfl⟩
    refine ⟨rfl, ?_⟩
    have e1 : M.takeR told (n, t, st) = (n, t, st) := if_pos hn
    have e2 : M.takeG told (n, t, st) = [] := if_pos (hn.elim .inl (fun h => .inr (.inl h)))
    have e3 : M.takeL told (n, t, st) = [] := if_pos (hn.elim .inl (fun h => .inr (.inl h)))
    have e4 : M.takeM told (n, t, st) = 0 := if_pos hn
    have e5 : M.takeT told now (n, t, st) s.rtt = s.rtt := if_pos (hn.elim .inl (fun h => .inr (.inl h)))
    rw [e1, e2, e3, e4, e5, List.append_nil, List.append_nil, Int.add_zero]
    have e6 : s.recs.set k (n, t, st) = s.recs := by
      have hkl : k < s.recs.length := (List.getElem?_eq_some_iff.1 hat').1
      have : s.recs[k] = (n, t, st) := (List.getElem?_eq_some_iff.1 hat').2
      rw [← this, List.set_getElem_self]
    rw [e6]
    exact h
  · have hn1 : told ≠ 3 := fun e => hn (.inl e)
    have hn2 : st ≠ 1 := fun e => hn (.inr e)
    have ht : told = 0 ∨ told = 1 := by omega
    obtain ⟨vG, vL, hh, hvG, hvL⟩ := h.heard
    have hsz := h.kept.size
    have e1 : M.takeR told (n, t, st) = (n, t, 1) := if_neg hn
    have e4 : M.takeM told (n, t, st) = told := if_neg hn
    rw [e1, e4]
    by_cases h22 : st = 2
    · subst h22
      have e2 : M.takeG told (n, t, 2) = [] := if_pos (.inr (.inr rfl))
      have e3 : M.takeL told (n, t, 2) = [n] := if_neg (by simp; exact hn1)
      have e5 : M.takeT told now (n, t, 2) s.rtt = s.rtt := if_pos (.inr (.inr rfl))
      rw [e2, e3, e5, List.append_nil]
      refine (heardTake_late s.gs s.ls (by omega) vG vL s.marks s.rtt hm1 (by omega) told ht n t now h0 h1 hnow H g (k * 3) wr hh hrow.1 hrow.2.1 hrow.2.2 (h.recs.free _) (by omega) (fun q hq => by have := hvL q hq; omega) (fun q hq => by have := hvG q hq; omega) (fun q hq => (hh.rowG.lt q hq).2)).mono ?_
      rintro e w' ⟨q2, cq, W, rfl, hw, h5, h6, h7⟩
      refine ⟨rfl, h.turned (s2 := ⟨s.recs.set k (n, t, 1), s.gs, s.ls ++ [n], s.marks + told, s.rtt⟩) hS hB hvL hat' rfl hw h5 h6 hvG (fun b hb => ?_) hTS⟩
      have : q2 = b := by simpa [Value.ownBlock] using hb
      subst this
      rcases h7 with h7 | h7
      · exact hvL _ h7
      · omega
    · have h00 : st = 0 := by omega
      subst h00
      have e2 : M.takeG told (n, t, 0) = [n] := if_neg (by simp; exact hn1)
      have e3 : M.takeL told (n, t, 0) = [] := if_pos (.inr (.inr (by simp)))
      have e5 : M.takeT told now (n, t, 0) s.rtt = now - t := if_neg (by simp; exact hn1)
      rw [e2, e3, e5, List.append_nil]
      refine (heardTake_got2 s.gs s.ls (by omega) vG vL s.marks s.rtt hm1 (by omega) told ht n t now h0 h1 hnow H g (k * 3) wr hh hrow.1 hrow.2.1 hrow.2.2 (h.recs.free _) (by omega) (fun q hq => by have := hvG q hq; omega) (fun q hq => by have := hvL q hq; omega) (fun q hq => (hh.rowL.lt q hq).2)).mono ?_
      rintro e w' ⟨q2, cq, W, rfl, hw, h5, h6, h7⟩
      refine ⟨rfl, h.turned (s2 := ⟨s.recs.set k (n, t, 1), s.gs ++ [n], s.ls, s.marks + told, now - t⟩) hS hB hvG hat' rfl hw h5 h6 (fun b hb => ?_) hvL hTS⟩
      have : q2 = b := by simpa [Value.ownBlock] using hb
      subst this
      rcases h7 with h7 | h7
      · exact hvG _ h7
      · omega
end Go.Proofs.YtkpginmdnlhfbaaGreatDoor

namespace Go.Proofs.YtkpginmdnlhfbaaGreatDoor
open Go.ChangeShapes Go.WideShapes Go.ChangeAt Go.RowKit
set_option linter.unusedVariables false
set_option linter.unusedSimpArgs false

/-- How many are out. -/
def M.outs (L : List Rec) : Nat := L.countP fun r => r.2.2 == 0
theorem M.outs_snoc (L : List Rec) (r : Rec) : M.outs (L ++ [r]) = M.outs L + (if r.2.2 == 0 then 1 else 0) := by unfold M.outs; rw [List.countP_append, List.countP_singleton]
theorem M.outs_le (L : List Rec) : M.outs L ≤ L.length := List.countP_le_length
theorem take_snocR (l : List Rec) (i : Nat) (h : i < l.length) : l.take (i + 1) = l.take i ++ [l.getD i (0, 0, 0)] := by
  rw [List.take_add_one, List.getD_eq_getElem?_getD, List.getElem?_eq_getElem h]; rfl
theorem getR (L : List Rec) (k : Nat) (hk : k < L.length) : L[k]? = some (L.getD k (0, 0, 0)) := by rw [List.getD_eq_getElem?_getD, List.getElem?_eq_getElem hk]; rfl
set_option maxHeartbeats 2000000 in
theorem sentOut_any (L : List Rec) (hL : L.length ≤ 200) (C g c : Nat) (w : World) (h : RecsAt L C g c w) :
    Calls Tryz.prog 22 #[.pointer (some ⟨C, 0, none⟩)] w fun e w' => e = .returned (.int .i64 (M.outs L)) ∧ Below w.heap.size w w' := by
  have a0 : w.cell? ⟨C, 0, none⟩ = some (.slice (some ⟨g, 0, none⟩) L.length c) := h.blk.cell 0
  have H := Lib.hid h
  have hc1 : L.length ≤ c := h.cap1
  have hc2 := h.cap2
  obtain ⟨N, hN⟩ : ∃ N, L.length = N := ⟨_, rfl⟩
  have HN := Lib.hid hN
  rw [hN] at a0 hc1 hL
  clear h hN
  go_enter Tryz.func22, Tryz.ntmps22
  go_upto_region 5 with fail
  go_loopw [3, 13] (fun n i wr => ∃ k : Nat, k ≤ N ∧ i = .int .i64 (k : Int) ∧ n = .int .i64 (M.outs (L.take k) : Nat) ∧ Hid (Below w.heap.size w wr)) (fun _ i _ => N - (intOf i).toNat)
  case atStart => exact ⟨0, Nat.zero_le _, rfl, rfl, Lib.hid (Below.refl _ _)⟩
  case round =>
    obtain ⟨k, hk, rfl, rfl, hb⟩ := hrel
    by_cases hlt : k < N
    · obtain ⟨x0, x1, x2⟩ := (H.out.below hb.out).row k _ (getR L k (by rw [HN.out]; exact hlt))
      have e : Hid (M.outs (L.take (k + 1)) = M.outs (L.take k) + (if (L.getD k (0, 0, 0)).2.2 == 0 then 1 else 0)) := Lib.hid (by rw [take_snocR L k (by rw [HN.out]; exact hlt), M.outs_snoc])
      have hm : M.outs (L.take k) ≤ 200 := by have h1 := M.outs_le (L.take k); rw [List.length_take] at h1; omega
      generalize L.getD k (0, 0, 0) = r at *
      obtain ⟨rn, rt, rs⟩ := r
      simp only at x0 x1 x2 e
      generalize M.outs (L.take k) = m at *
      by_cases hs : rs = 0
      · subst hs
        go_wp2
        go_roundw
        case rel => exact ⟨k + 1, by omega, by go_num, by rw [e.out]; go_num, Lib.hid (bel_trans hb.out (bel_alloc _ _))⟩
        case measure => simp [intOf]; omega
      · have hsb : (rs == 0) = false := by rw [beq_eq_false_iff_ne]; exact hs
        rw [hsb] at e
        go_wp2
        go_roundw
        case rel => exact ⟨k + 1, by omega, by go_num, by rw [e.out]; rfl, Lib.hid (bel_trans hb.out (bel_alloc _ _))⟩
        case measure => simp [intOf]; omega
    · obtain rfl : k = N := by omega
      have e : Hid (M.outs L = M.outs (L.take k)) := Lib.hid (by rw [List.take_of_length_le (by rw [HN.out]; omega)])
      generalize M.outs (L.take k) = m at *
      go_wp2
      go_ret
      exact ⟨M.ret_int (by rw [e.out]), hb.out⟩
theorem sentOut_none (C : Nat) (w : World) (h : SentAt [] C (.slice none 0 0) w) :
    Calls Tryz.prog 22 #[.pointer (some ⟨C, 0, none⟩)] w fun e w' => e = .returned (.int .i64 0) ∧ Below w.heap.size w w' := by
  have a0 : w.cell? ⟨C, 0, none⟩ = some (.slice none 0 0) := h.blk.cell 0
  clear h
  go_enter Tryz.func22, Tryz.ntmps22
  go_upto_region 5 with fail
  refine wp_loop_rounds 1 ?_
  rw [rounds_succ]
  go_wp2
  go_ret
  exact ⟨rfl, Below.refl _ _⟩
theorem sentLen_any (L : List Rec) (C g c : Nat) (w : World) (h : RecsAt L C g c w) :
    Calls Tryz.prog 32 #[.pointer (some ⟨C, 0, none⟩)] w fun e w' => e = .returned (.int .i64 L.length) ∧ w = w' := by
  have a0 : w.cell? ⟨C, 0, none⟩ = some (.slice (some ⟨g, 0, none⟩) L.length c) := h.blk.cell 0
  clear h
  generalize L.length = N at *
  go_enter Tryz.func32, Tryz.ntmps32
  go_wp2
  go_ret
  exact ⟨rfl, rfl⟩
/-- The records of a row that is not empty, behind the pointer. -/
theorem SentAt.recs2 {l : List Rec} {C g n c : Nat} {w : World} (h : SentAt l C (.slice (some ⟨g, 0, none⟩) n c) w) (hl : 0 < l.length) : RecsAt l C g c w := by
  obtain ⟨g', c', e, _⟩ := h.row.shape hl
  injection e with e1 e2 e3
  subst e2
  exact h.recs hl
/-- Put behind those that are kept. -/
theorem sentPut_next (l : List Rec) (hl0 : 0 < l.length) (hl : l.length < 200) (x n : Nat) (hx : (l.getD (l.length - 1) (0, 0, 0)).1 = x) (hn : n < 281474976710656) (hxb : x < 281474976710656) (hd : diffI x n < 0) (t : Int) (ht : 0 ≤ t) (ht2 : t ≤ 4611686018427387904) (C : Nat) (v : Value) (w : World) (h : SentAt l C v w) :
    Calls Tryz.prog 20 #[.pointer (some ⟨C, 0, none⟩), .int .u64 n, .int .i64 t] w fun e w' => ∃ g c, e = .returned (.bool true) ∧ SentAt (l ++ [(n, t, 0)]) C (.slice (some ⟨g, 0, none⟩) (l.length + 1) c) w' ∧ Kept (C :: own v) w w' ∧ (v.ownBlock = some g ∨ w.heap.size ≤ g) := by
  refine sentPut_any l hl n hn t ht ht2 C v w h ?_
  obtain ⟨m, hm⟩ : ∃ m, l.length = m + 1 := ⟨l.length - 1, by omega⟩
  refine sentMay_next l m hm (by omega) n x (by rw [← hx, hm]; rfl) (fun W => ?_) C v w h
  have h1 := seqLess_any x n (by omega) (by omega) W
  rw [decide_eq_true hd] at h1
  exact h1
theorem sentPut_first (n : Nat) (hn : n < 281474976710656) (t : Int) (ht : 0 ≤ t) (ht2 : t ≤ 4611686018427387904) (C : Nat) (w : World) (h : SentAt [] C (.slice none 0 0) w) :
    Calls Tryz.prog 20 #[.pointer (some ⟨C, 0, none⟩), .int .u64 n, .int .i64 t] w fun e w' => ∃ g c, e = .returned (.bool true) ∧ SentAt [(n, t, 0)] C (.slice (some ⟨g, 0, none⟩) 1 c) w' ∧ Kept [C] w w' ∧ w.heap.size ≤ g := by
  refine (sentPut_any [] (by decide) n hn t ht ht2 C _ w h ((sentMay_first n C w h).mono fun e w' ⟨h1, h2⟩ => ⟨h1, 0, h2⟩)).mono ?_
  rintro e w' ⟨g, c, h1, h2, h3, h4⟩
  refine ⟨g, c, h1, h2, h3, ?_⟩
  rcases h4 with h4 | h4
  · cases h4
  · exact h4
/-- Put, whatever is kept. -/
theorem sentPut_any2 (l : List Rec) (hl : l.length < 200) (n : Nat) (hn : n < 281474976710656) (hx : ∀ r, l.getLast? = some r → r.1 < 281474976710656 ∧ diffI r.1 n < 0) (t : Int) (ht : 0 ≤ t) (ht2 : t ≤ 4611686018427387904) (C : Nat) (v : Value) (hv : l = [] → v = .slice none 0 0) (w : World) (h : SentAt l C v w) :
    Calls Tryz.prog 20 #[.pointer (some ⟨C, 0, none⟩), .int .u64 n, .int .i64 t] w fun e w' => ∃ g c, e = .returned (.bool true) ∧ SentAt (l ++ [(n, t, 0)]) C (.slice (some ⟨g, 0, none⟩) (l.length + 1) c) w' ∧ Kept (C :: own v) w w' ∧ (v.ownBlock = some g ∨ w.heap.size ≤ g) := by
  rcases Nat.eq_zero_or_pos l.length with h0 | h0
  · have e : l = [] := List.length_eq_zero_iff.1 h0
    subst e
    have e2 := hv rfl
    subst e2
    refine (sentPut_first n hn t ht ht2 C w h).mono ?_
    rintro e w' ⟨g, c, h1, h2, h3, h4⟩
    exact ⟨g, c, h1, h2, h3, .inr h4⟩
  · have e : l.getLast? = some (l.getD (l.length - 1) (0, 0, 0)) := by rw [List.getLast?_eq_getElem?, getR l _ (by omega)]
    obtain ⟨h1, h2⟩ := hx _ e
    exact sentPut_next l h0 hl _ n rfl hn h1 h2 t ht ht2 C v w h
end Go.Proofs.YtkpginmdnlhfbaaGreatDoor

namespace Go.Proofs.YtkpginmdnlhfbaaGreatDoor
open Go.ChangeShapes Go.WideShapes Go.ChangeAt Go.RowKit Go.Shelf
attribute [local go_sem] Oper.semAt_some
set_option linter.unusedVariables false
set_option linter.unusedSimpArgs false

/-- What Backward reads: its box, the records. -/
structure GoodB (Bs g c N : Nat) (W : World) : Prop where
  box : W.cell? ⟨Bs, 0, none⟩ = some (.slice (some ⟨g, 0, none⟩) N c)
  row : ∀ i, i < N → ∃ (n : Nat) (t st : Int), W.cell? ⟨g, i * 3, none⟩ = some (.int .u64 n) ∧ W.cell? ⟨g, i * 3 + 1, none⟩ = some (.int .i64 t) ∧ W.cell? ⟨g, i * 3 + 2, none⟩ = some (.int .i64 st)
def KpB (Bs g c N : Nat) (W W' : World) : Prop := GoodB Bs g c N W → GoodB Bs g c N W'
theorem KpB.trans {Bs g c N : Nat} {A B C : World} (h : KpB Bs g c N A B) (k : KpB Bs g c N B C) : KpB Bs g c N A C := fun x => k (h x)
theorem KpB.put {Bs g c N : Nat} (W : World) (l : Nat) (o' : Obj) (h1 : Bs ≠ l) (h2 : g ≠ l) : KpB Bs g c N W (W.putObj l o') := fun h => by
  have e1 : ∀ i, (W.putObj l o').cell? ⟨Bs, i, none⟩ = W.cell? ⟨Bs, i, none⟩ := fun i => by unfold World.cell?; rw [World.putObj_heap_other h1]
  have e2 : ∀ i, (W.putObj l o').cell? ⟨g, i, none⟩ = W.cell? ⟨g, i, none⟩ := fun i => by unfold World.cell?; rw [World.putObj_heap_other h2]
  refine ⟨(e1 0).trans h.box, fun i hi => ?_⟩
  obtain ⟨n, t, st, x0, x1, x2⟩ := h.row i hi
  exact ⟨n, t, st, (e2 _).trans x0, (e2 _).trans x1, (e2 _).trans x2⟩
def seesB (g N k : Nat) (W : World) (vs : Array Value) : Prop := ∃ (n : Nat) (t st : Int), W.cell? ⟨g, (N - 1 - k) * 3, none⟩ = some (.int .u64 n) ∧ W.cell? ⟨g, (N - 1 - k) * 3 + 1, none⟩ = some (.int .i64 t) ∧ W.cell? ⟨g, (N - 1 - k) * 3 + 2, none⟩ = some (.int .i64 st) ∧
  vs = #[.int .i64 ((N - 1 - k : Nat) : Int), .agg #[.int .u64 n, .int .i64 t, .int .i64 st]]
set_option maxRecDepth 100000 in
set_option maxHeartbeats 2000000 in
theorem backR_in (F : Fence) (n : Nat) (hF : F.fn 128) (hro : F.round = none) (hn : 1 ≤ n) (l Bs g c N : Nat) (hL : N ≤ 1000) (J : Nat → World → Prop)
    (hY : ∀ k vs X, J k X → k < N → seesB g N k X vs → YieldAt F (n - 1) Tryz.prog l vs X fun e Y => e = .returned (.bool true) ∧ J (k + 1) Y ∧ KpB Bs g c N X Y)
    (W : World) (hG : GoodB Bs g c N W) (hc1 : N ≤ c) (hc2 : c ≤ 9223372036854775807) (h0 : J 0 W) :
    CallsIn F n Tryz.prog 128 #[.func (.yield l) #[] #[], .pointer (some ⟨Bs, 0, none⟩)] W fun e W' => (∃ v, e = .returned v) ∧ J N W' := by
  have HG0 := Lib.hid hG
  have hBs : W.cell? ⟨Bs, 0, none⟩ = some (.slice (some ⟨g, 0, none⟩) N c) := hG.box
  clear hG
  refine callsIn_of_wp Tryz.func128 rfl hF ?_ hro
  simp only [Tryz.ntmps128, List.size_toArray, List.length_cons, List.length_nil, Nat.reduceAdd, Nat.reduceSub, Array.replicate_succ, Array.replicate_zero, List.push_toArray, List.append_toArray, List.nil_append, List.cons_append]
  gi_wp2
  gi_loopw [3] (fun i wr => ∃ k : Nat, k ≤ N ∧ i = .int .i64 ((N : Int) - 1 - (k : Int)) ∧ J k wr ∧ Hid (GoodB Bs g c N wr)) (fun i _ => (intOf i + 1).toNat)
  case atStart => exact ⟨0, Nat.zero_le _, by simp, h0, HG0⟩
  case round =>
    obtain ⟨k, hk, rfl, hJs, hgd⟩ := hrel
    have hBs2 : wr.cell? ⟨Bs, 0, none⟩ = some (.slice (some ⟨g, 0, none⟩) N c) := hgd.out.box
    by_cases hlt : k < N
    · obtain ⟨m, hm⟩ : ∃ m, N - 1 - k = m := ⟨_, rfl⟩
      have hmi : (N : Int) - 1 - (k : Int) = (m : Int) := by omega
      have hml : m < N := by omega
      obtain ⟨a, t, st, x0, x1, x2⟩ := hgd.out.row m hml
      obtain ⟨fn, tmps, assign, body, hy, hR⟩ := hY k _ wr hJs hlt ⟨a, t, st, by rw [hm]; exact x0, by rw [hm]; exact x1, by rw [hm]; exact x2, rfl⟩
      have HR := Lib.hid hR
      rw [hm] at hy
      rw [hmi]
      clear hR hY hBs
      gi_wp2
      refine HR.out.mono ?_
      rintro e W3 ⟨rfl, hJ3, hk3⟩
      have hwr : IntKind.i64.wrap ((m : Int) - 1) = (m : Int) - 1 := by rw [IntKind.wrap_i64]; omega
      gi_wp2
      go_roundw
      case rel => exact ⟨k + 1, by omega, by congr 1; omega, hJ3, Lib.hid (hk3 hgd.out)⟩
      case measure => simp [intOf]
    · obtain rfl : k = N := by omega
      have hmi : (k : Int) - 1 - (k : Int) = -1 := by omega
      rw [hmi]
      gi_wp2
      go_end0
      exact ⟨⟨_, rfl⟩, hJs⟩
theorem backR_rounds (F : Fence) (n : Nat) (hF : F.fn 128) (hro : F.round = none) (hn : 1 ≤ n) (Bs g c N : Nat) (hL : N ≤ 1000) (w : World) (hb1 : Bs < w.heap.size) (hg1 : g < w.heap.size) (hG : GoodB Bs g c N w) (hc1 : N ≤ c) (hc2 : c ≤ 9223372036854775807) :
    RoundsOf F n Tryz.prog 128 #[.pointer (some ⟨Bs, 0, none⟩)] (seesB g N) (KpB Bs g c N) N w := fun l J W hW hY h0 =>
  backR_in F n hF hro hn l Bs g c N hL J hY W ⟨(hW.cell (p := ⟨Bs, 0, none⟩) hb1).trans hG.box, fun i hi => by
    obtain ⟨a, t, st, x0, x1, x2⟩ := hG.row i hi
    exact ⟨a, t, st, (hW.cell (p := ⟨g, i * 3, none⟩) hg1).trans x0, (hW.cell (p := ⟨g, i * 3 + 1, none⟩) hg1).trans x1, (hW.cell (p := ⟨g, i * 3 + 2, none⟩) hg1).trans x2⟩⟩ hc1 hc2 h0

/-- Behind so many rounds from the end: how many were got, which are lost (as they come), the records. -/
structure LsS where
  b : Nat
  ns : List Nat
  recs : List Rec
def LsS.step (s : LsS) (i : Nat) : LsS :=
  if (s.recs.getD i (0, 0, 0)).2.2 = 1 then ⟨s.b + 1, s.ns, s.recs⟩
  else if (s.recs.getD i (0, 0, 0)).2.2 = 0 ∧ 3 ≤ s.b then ⟨s.b, s.ns ++ [(s.recs.getD i (0, 0, 0)).1], s.recs.set i ((s.recs.getD i (0, 0, 0)).1, (s.recs.getD i (0, 0, 0)).2.1, 2)⟩
  else s
def LsS.upto (L : List Rec) : Nat → LsS
  | 0 => ⟨0, [], L⟩
  | k + 1 => (LsS.upto L k).step (L.length - 1 - k)
theorem LsS.upto_len (L : List Rec) : ∀ k, (LsS.upto L k).recs.length = L.length
  | 0 => rfl
  | k + 1 => by
    have h := LsS.upto_len L k
    unfold LsS.upto LsS.step
    split
    · exact h
    · split
      · rw [List.length_set]; exact h
      · exact h
theorem LsS.upto_b (L : List Rec) : ∀ k, (LsS.upto L k).b ≤ k ∧ (LsS.upto L k).ns.length ≤ k
  | 0 => ⟨Nat.le_refl _, Nat.le_refl _⟩
  | k + 1 => by
    have h := LsS.upto_b L k
    unfold LsS.upto LsS.step
    split
    · exact ⟨by simp only; omega, by simp only; omega⟩
    · split
      · exact ⟨by simp only; omega, by simp only [List.length_append, List.length_cons, List.length_nil]; omega⟩
      · exact ⟨by omega, by omega⟩
theorem LsS.upto_low (L : List Rec) : ∀ k i, i + k < L.length → (LsS.upto L k).recs.getD i (0, 0, 0) = L.getD i (0, 0, 0)
  | 0, i, _ => rfl
  | k + 1, i, hi => by
    have h := LsS.upto_low L k i (by omega)
    unfold LsS.upto LsS.step
    split
    · exact h
    · split
      · rw [List.getD_eq_getElem?_getD, List.getElem?_set, if_neg (by omega), ← List.getD_eq_getElem?_getD]; exact h
      · exact h
end Go.Proofs.YtkpginmdnlhfbaaGreatDoor

namespace Go.Proofs.YtkpginmdnlhfbaaGreatDoor
open Go.ChangeShapes Go.WideShapes Go.ChangeAt Go.RowKit Go.Shelf
attribute [local go_sem] Oper.semAt_some
set_option linter.unusedVariables false
set_option linter.unusedSimpArgs false

theorem reverseU_few (p : Option Addr) (m c : Nat) (hm : m ≤ 1) (w : World) : Calls Tryz.prog 103 #[.slice p m c] w fun e w' => e = .returned (.tuple #[]) ∧ w' = w := by
  rcases (show m = 0 ∨ m = 1 by omega) with rfl | rfl
  all_goals
    go_enter Tryz.func103, Tryz.ntmps103
    go_wp2
    refine wp_loop_rounds 1 ?_
    rw [rounds_succ]
    go_wp2
    go_end0
    exact ⟨rfl, rfl⟩
theorem oper_append_u {F : Fence} {n : Nat} {ops : Array Oper} {o : Oper} {a : Act} {K : Act → World → Prop} {Q : Exit → Act → World → Prop} {X : Prop} (hgd : o.guard = none) (s x : Operand)
    (ho : o.op = .call { callee := .builtin .append, args := #[s, x], argTypes := #[39, 39] })
    (B : Nat) (v : Value) (l : List Nat) (hs : a.eval s = v) (w0 w1 : World) (c : Nat) (hw : w1 = w0.alloc (.cells #[nuV c] 22)) (hb : w0.ownsRow B 22 1 v l.length (l.map nuV)) (hB : B ≤ w0.heap.size)
    (hx : a.eval x = .slice (some ⟨w0.heap.size, 0, none⟩) 1 1) (hlen : l.length ≤ 1073741824)
    (h : ∀ v' w', w'.ownsRow B 22 1 v' (l ++ [c]).length ((l ++ [c]).map nuV) → Below B w0 w' → KeepsOthers w0 w' → K (a.put o.dst v') w') : if Region.wanted o (yielded ops a.tmps) = true then Oper.wpIn F n Tryz.prog o a w1 K Q else X := by
  obtain ⟨i0, hi, hz0, hz1, hz2⟩ := info_parts infoU64s
  subst hw
  have hb' := hb.alloc (.cells #[nuV c] 22)
  have hBa : Below B w0 (w0.alloc (.cells #[nuV c] 22)) := (bel_alloc w0 _).mono hB
  rw [if_pos (by unfold Region.wanted; rw [hgd])]
  obtain ⟨v', w', hrun, r1, hg, r3⟩ := run_append_own (P := Tryz.prog) (w := w0.alloc (.cells #[nuV c] 22)) B 39 o.type 22 i0 (.int .u64 0) 1 8 Tryz.underlying39 hi hz0 hz1 hz2 rfl (by decide) v l.length (l.map nuV) hb' ⟨w0.heap.size, 0, none⟩ 1 1 [nuV c] rfl (fun j u hu => by
    have hadd : (⟨w0.heap.size, 0, none⟩ : Addr).add j = ⟨w0.heap.size, j, none⟩ := by unfold Addr.add; split <;> simp_all
    rw [hadd, cell_of_row _ _ _ _ _ _ (heap_alloc_new w0 (.cells #[nuV c] 22))]
    simpa using hu) (by intro u hu; simp at hu; rcases hu with rfl | rfl <;> rfl) (by unfold maxLen; omega) (by omega) (by simp; omega)
  unfold Oper.wpIn
  refine ⟨?_, ?_⟩
  · simp [Oper.about, ho, resolve, Target.leads, Sem.run_pure]
  · rw [Oper.semAt_plain F _ _ (by rw [ho]; intro c hc'; cases hc')]
    simp [execOp, ho, resolve, invoke, builtin, hs, hx, hrun, Result.andThen]
    refine h v' w' ?_ (hBa.grown hg (by simp; omega) (fun k hk => (hb'.lt k hk).1)) ((KeepsOthers.alloc w0 _).trans (KeepsOthers.of_grownBy hg fun j o e hj => ?_))
    · rw [List.length_append, List.map_append]
      exact r1
    · obtain ⟨c', fz, hk⟩ := Lib.ownsRow_kind hb' j e
      rw [hk] at hj
      cases hj
      rfl
theorem ownU_shape {w : World} {B n : Nat} {v : Value} {xs : List Value} (h : w.ownsRow B 22 1 v n xs) : ∃ p c, v = .slice p n c := by
  rcases h.2 with ⟨rfl, h0⟩ | ⟨g, cap, cur, rfl, _⟩
  · exact ⟨none, 0, by rw [h0]⟩
  · exact ⟨_, _, rfl⟩
theorem wp_u_in {F : Fence} {n : Nat} {ops : Array Oper} {rest : List Oper} {o : Oper} {a : Act} {Q : Exit → Act → World → Prop} (hgd : o.guard = none) (s x : Operand)
    (ho : o.op = .call { callee := .builtin .append, args := #[s, x], argTypes := #[39, 39] })
    (B : Nat) (v : Value) (l : List Nat) (hs : a.eval s = v) (w0 w1 : World) (c : Nat) (hw : w1 = w0.alloc (.cells #[nuV c] 22)) (hb : w0.ownsRow B 22 1 v l.length (l.map nuV)) (hB : B ≤ w0.heap.size) (H : Nat) (hH : w0.heap.size = H)
    (hx : a.eval x = .slice (some ⟨H, 0, none⟩) 1 1) (hlen : l.length ≤ 1073741824)
    (h : ∀ v' w', w'.ownsRow B 22 1 v' (l ++ [c]).length ((l ++ [c]).map nuV) → Below B w0 w' → KeepsOthers w0 w' → wpListIn F n Tryz.prog ops Q rest (a.put o.dst v') w') : wpListIn F n Tryz.prog ops Q (o :: rest) a w1 := by
  obtain ⟨i0, hi, hz0, hz1, hz2⟩ := info_parts infoU64s
  subst hH hw
  have hb' := hb.alloc (.cells #[nuV c] 22)
  have hBa : Below B w0 (w0.alloc (.cells #[nuV c] 22)) := (bel_alloc w0 _).mono hB
  refine wpListIn_append_own _ hgd s x 39 ho B 22 i0 (.int .u64 0) 1 8 Tryz.underlying39 hi hz0 hz1 hz2 rfl (by decide) v l.length (l.map nuV) hs hb' ⟨w0.heap.size, 0, none⟩ 1 1 [nuV c] hx rfl (fun j u hu => ?_) (by intro u hu; simp at hu; rcases hu with rfl | rfl <;> rfl) (by unfold maxLen; omega) (by omega) (by simp; omega) ?_
  · have hadd : (⟨w0.heap.size, 0, none⟩ : Addr).add j = ⟨w0.heap.size, j, none⟩ := by unfold Addr.add; split <;> simp_all
    rw [hadd, cell_of_row _ _ _ _ _ _ (heap_alloc_new w0 (.cells #[nuV c] 22))]
    simpa using hu
  · intro v' w' ho' hg _
    refine h v' w' ?_ (hBa.grown hg (by simp; omega) (fun k hk => (hb'.lt k hk).1)) ((KeepsOthers.alloc w0 _).trans (KeepsOthers.of_grownBy hg fun j o e hj => ?_))
    · rw [List.length_append, List.map_append]
      exact ho'
    · obtain ⟨c', fz, hk⟩ := Lib.ownsRow_kind hb' j e
      rw [hk] at hj
      cases hj
      rfl
/-- The boxes of loseOvertaken behind k rounds. -/
structure LoseK (L : List Rec) (B C g c : Nat) (w : World) (k : Nat) (W : World) : Prop where
  b : BlkIs #[.int .i64 ((LsS.upto L k).b : Int)] 3 (B + 1 + 1) W
  s : BlkIs #[.pointer (some ⟨C, 0, none⟩)] 34 B W
  ns : ∃ v, BlkIs #[v] 39 (B + 1) W ∧ W.ownsRow (B + 1 + 1 + 1 + 1) 22 1 v (LsS.upto L k).ns.length ((LsS.upto L k).ns.map nuV)
  bx : BlkIs #[.slice (some ⟨g, 0, none⟩) L.length c] 98 (B + 1 + 1 + 1) W
  recs : RecsAt (LsS.upto L k).recs C g c W
  kept : Kept [g] w W
  size : B + 1 + 1 + 1 + 1 ≤ W.heap.size
theorem LoseK.good {L : List Rec} {B C g c k : Nat} {w W : World} (h : LoseK L B C g c w k W) : GoodB (B + 1 + 1 + 1) g c L.length W :=
  ⟨h.bx.cell 0, fun i hi => by
    have hl := LsS.upto_len L k
    obtain ⟨r, hr⟩ : ∃ r, (LsS.upto L k).recs[i]? = some r := ⟨_, List.getElem?_eq_getElem (by omega)⟩
    obtain ⟨x0, x1, x2⟩ := h.recs.row i r hr
    exact ⟨r.1, r.2.1, r.2.2, x0, x1, x2⟩⟩
theorem ownU_kept {w w' : World} {B n : Nat} {v : Value} {xs : List Value} {row : Option Nat} (h : w.ownsRow B 22 1 v n xs) (hg : w.grownBy w' row) (hr : ∀ r, row = some r → ∃ o : Obj, w.heap[r]? = some o ∧ o.isCells = false) : w'.ownsRow B 22 1 v n xs := h.kept hg (by
  cases hv : v.ownBlock with
  | none => exact .inl rfl
  | some g =>
    right
    intro e
    obtain ⟨o, ho, hc⟩ := hr g e.symm
    obtain ⟨c', fz, hk⟩ := Lib.ownsRow_kind h g hv
    rw [hk] at ho
    cases ho
    cases hc)
theorem RecsAt.own {L : List Rec} {C g c : Nat} {X Y : World} {row : Option Nat} (h : RecsAt L C g c X) (hL : 0 < L.length) (hg : X.grownBy Y row) (hr : ∀ r, row = some r → ∃ o : Obj, X.heap[r]? = some o ∧ o.isCells = false) : RecsAt L C g c Y := by
  obtain ⟨r0, hr0⟩ : ∃ r, L[0]? = some r := ⟨_, List.getElem?_eq_getElem hL⟩
  have hgc := (h.row 0 r0 hr0).1
  have hne : ∀ r, row = some r → r ≠ g := by
    intro r e e2
    subst e2
    obtain ⟨o, ho, hc⟩ := hr _ e
    unfold World.cell? at hgc
    rw [ho] at hgc
    cases o <;> simp_all [Obj.isCells]
  have hb : Y.heap[g]? = X.heap[g]? := hg.block g h.lt (fun e => hne g e.symm rfl)
  have hcell : ∀ i, Y.cell? ⟨g, i, none⟩ = X.cell? ⟨g, i, none⟩ := fun i => by unfold World.cell?; rw [hb]
  have hfro : ∀ i, Y.frozen? ⟨g, i, none⟩ = X.frozen? ⟨g, i, none⟩ := fun i => by unfold World.frozen?; rw [hb]
  exact ⟨h.blk.own hg hr, fun i r hi => ⟨(hcell _).trans (h.row i r hi).1, (hcell _).trans (h.row i r hi).2.1, (hcell _).trans (h.row i r hi).2.2⟩, fun i => (hfro i).trans (h.free i), Nat.lt_of_lt_of_le h.lt hg.size, h.ne, h.cap1, h.cap2, by obtain ⟨cur, t1, t2⟩ := h.typ; exact ⟨cur, hb.trans t1, t2⟩⟩
theorem LoseK.own {L : List Rec} {B C g c k : Nat} {w W W' : World} {row : Option Nat} (h : LoseK L B C g c w k W) (hL : 0 < L.length) (hB : w.heap.size ≤ B) (hg : W.grownBy W' row) (hr : ∀ r, row = some r → B ≤ r ∧ ∃ o : Obj, W.heap[r]? = some o ∧ o.isCells = false) : LoseK L B C g c w k W' := by
  obtain ⟨v, h1, h2⟩ := h.ns
  have hr2 := fun r e => (hr r e).2
  exact ⟨h.b.own hg hr2, h.s.own hg hr2, ⟨v, h1.own hg hr2, ownU_kept h2 hg hr2⟩, h.bx.own hg hr2, h.recs.own (by rw [LsS.upto_len]; exact hL) hg hr2, h.kept.grown hg (fun q e => .inr (Nat.le_trans hB (hr q e).1)), Nat.le_trans h.size hg.size⟩
theorem LoseK.alloc {L : List Rec} {B C g c k : Nat} {w W : World} (h : LoseK L B C g c w k W) (o : Obj) : LoseK L B C g c w k (W.alloc o) := by
  obtain ⟨v, h1, h2⟩ := h.ns
  exact ⟨h.b.alloc _, h.s.alloc _, ⟨v, h1.alloc _, h2.alloc _⟩, h.bx.alloc _, h.recs.below (bel_alloc _ _), h.kept.alloc _, Nat.le_trans h.size (bel_alloc W o).size⟩
/-- One more is got. -/
theorem LoseK.got {L : List Rec} {B C g c k : Nat} {w W : World} (h : LoseK L B C g c w k W) (hw : w.heap.size = B) (hg : g < B) (hC : C < B) (hst : ((LsS.upto L k).recs.getD (L.length - 1 - k) (0, 0, 0)).2.2 = 1) :
    LoseK L B C g c w (k + 1) (W.setCell ⟨B + 1 + 1, 0, none⟩ (.int .i64 (((LsS.upto L k).b : Int) + 1))) := by
  have e : LsS.upto L (k + 1) = ⟨(LsS.upto L k).b + 1, (LsS.upto L k).ns, (LsS.upto L k).recs⟩ := by
    show (LsS.upto L k).step _ = _
    unfold LsS.step
    rw [if_pos hst]
  obtain ⟨v, h1, h2⟩ := h.ns
  have kk : Kept [B + 1 + 1] W (W.setCell ⟨B + 1 + 1, 0, none⟩ (.int .i64 (((LsS.upto L k).b : Int) + 1))) := (Kept.refl _ _).setCell (.inl (by simp)) _
  refine ⟨?_, h.s.far (by simp; omega) _, ⟨v, h1.far (by simp) _, ?_⟩, h.bx.far (by simp) _, ?_, h.kept.setCell (.inr (by simp; omega)) _, by simpa using h.size⟩
  · rw [e]; exact h.b.set 0 _
  · rw [e]; exact ownsRow_keptC h2 kk (fun q hq => by have := (h2.lt q hq).1; simp; omega)
  · rw [e]; exact h.recs.kept kk (by simp; omega) (by simp; omega)
/-- Nothing turns. -/
theorem LoseK.skip {L : List Rec} {B C g c k : Nat} {w W : World} (h : LoseK L B C g c w k W) (h1 : ((LsS.upto L k).recs.getD (L.length - 1 - k) (0, 0, 0)).2.2 ≠ 1) (h2 : ¬ (((LsS.upto L k).recs.getD (L.length - 1 - k) (0, 0, 0)).2.2 = 0 ∧ 3 ≤ (LsS.upto L k).b)) : LoseK L B C g c w (k + 1) W := by
  have e : LsS.upto L (k + 1) = LsS.upto L k := by
    show (LsS.upto L k).step _ = _
    unfold LsS.step
    rw [if_neg h1, if_neg h2]
  exact ⟨by rw [e]; exact h.b, h.s, by rw [e]; exact h.ns, h.bx, by rw [e]; exact h.recs, h.kept, h.size⟩
/-- One more is lost: its state is written, its number told. -/
theorem LoseK.lost {L : List Rec} {B C g c k n : Nat} {t : Int} {w W W2 W3 : World} (h : LoseK L B C g c w k W) (hw : w.heap.size = B) (hg : g < B) (hC : C < B) (hk : k < L.length) (hr : (LsS.upto L k).recs.getD (L.length - 1 - k) (0, 0, 0) = (n, t, 0)) (hb : 3 ≤ (LsS.upto L k).b)
    (hW2 : W2 = W.setCell ⟨g, (L.length - 1 - k) * 3 + 2, none⟩ (.int .i64 2)) (v' : Value) (hown : W3.ownsRow (B + 1 + 1 + 1 + 1) 22 1 v' ((LsS.upto L k).ns ++ [n]).length (((LsS.upto L k).ns ++ [n]).map nuV)) (hbel : Below (B + 1 + 1 + 1 + 1) W2 W3) :
    LoseK L B C g c w (k + 1) (W3.setCell ⟨B + 1, 0, none⟩ v') := by
  have e : LsS.upto L (k + 1) = ⟨(LsS.upto L k).b, (LsS.upto L k).ns ++ [n], (LsS.upto L k).recs.set (L.length - 1 - k) (n, t, 2)⟩ := by
    show (LsS.upto L k).step _ = _
    unfold LsS.step
    rw [hr, if_neg (by simp), if_pos ⟨rfl, hb⟩]
  have hl := LsS.upto_len L k
  have hat : (LsS.upto L k).recs[L.length - 1 - k]? = some (n, t, 0) := by
    rw [← hr, List.getD_eq_getElem?_getD, List.getElem?_eq_getElem (by omega)]; rfl
  have k2 : Kept [g] W W2 := by rw [hW2]; exact (Kept.refl _ _).setCell (.inl (by simp)) _
  have hs2 : W2.heap.size = W.heap.size := by rw [hW2]; simp
  have hsz := h.size
  have k3 : Kept [B + 1] W3 (W3.setCell ⟨B + 1, 0, none⟩ v') := (Kept.refl _ _).setCell (.inl (by simp)) _
  have hblk : ∀ {cs : Array Value} {T X : Nat}, X < B + 1 + 1 + 1 + 1 → X ≠ g → X ≠ B + 1 → BlkIs cs T X W → BlkIs cs T X (W3.setCell ⟨B + 1, 0, none⟩ v') := fun hX hXg hXB hb => by
    have h1 := hb.kept k2 (by simp; exact hXg)
    have h2 : BlkIs _ _ _ W3 := (hbel.block _ hX).trans h1
    exact h2.far (by simp; exact hXB) _
  obtain ⟨v, hv1, hv2⟩ := h.ns
  have hb1 : BlkIs #[v] 39 (B + 1) W3 := (hbel.block _ (by omega)).trans (hv1.kept k2 (by simp; omega))
  refine ⟨?_, hblk (by omega) (by omega) (by omega) h.s, ⟨v', hb1.set 0 v', ?_⟩, hblk (by omega) (by omega) (by omega) h.bx, ?_, ?_, ?_⟩
  · rw [e]; exact hblk (by omega) (by omega) (by omega) h.b
  · rw [e]; exact ownsRow_keptC hown k3 (fun q hq => by have := (hown.lt q hq).1; simp; omega)
  · rw [e]
    have r2 : RecsAt ((LsS.upto L k).recs.set (L.length - 1 - k) (n, t, 2)) C g c W2 := by rw [hW2]; exact h.recs.setSt _ n t 0 2 hat
    have kb : Kept [] W2 (W2) := Kept.refl _ _
    have r3 : RecsAt ((LsS.upto L k).recs.set (L.length - 1 - k) (n, t, 2)) C g c W3 := by
      have hcell : ∀ i, W3.cell? ⟨g, i, none⟩ = W2.cell? ⟨g, i, none⟩ := fun i => by unfold World.cell?; rw [hbel.block g (by omega)]
      have hfro : ∀ i, W3.frozen? ⟨g, i, none⟩ = W2.frozen? ⟨g, i, none⟩ := fun i => by unfold World.frozen?; rw [hbel.block g (by omega)]
      exact ⟨(hbel.block C (by omega)).trans r2.blk, fun i r hi => ⟨(hcell _).trans (r2.row i r hi).1, (hcell _).trans (r2.row i r hi).2.1, (hcell _).trans (r2.row i r hi).2.2⟩, fun i => (hfro i).trans (r2.free i), Nat.lt_of_lt_of_le r2.lt hbel.size, r2.ne, r2.cap1, r2.cap2, by obtain ⟨cur, t1, t2⟩ := r2.typ; exact ⟨cur, (hbel.block g (by omega)).trans t1, t2⟩⟩
    exact r3.kept k3 (by simp; omega) (by simp; omega)
  · have k4 : Kept [g] w W2 := h.kept.trans' k2
    have k5 : Kept [g] w W3 := ⟨hbel.os.trans k4.os, hbel.tape.trans k4.tape, hbel.output.trans k4.output, Nat.le_trans k4.size hbel.size, fun i hi hn => (hbel.block i (by omega)).trans (k4.block i hi hn)⟩
    exact k5.setCell (.inr (by simp; omega)) _
  · have := hbel.size
    simp; omega
set_option maxRecDepth 100000 in
set_option maxHeartbeats 4000000 in
theorem sentLose_any (L : List Rec) (hL0 : 0 < L.length) (hL : L.length ≤ 200) (hns : (LsS.upto L L.length).ns.length ≤ 1) (C g c : Nat) (w : World) (h : RecsAt L C g c w) :
    Calls Tryz.prog 69 #[.pointer (some ⟨C, 0, none⟩)] w fun e w' => (∃ p cc, e = .returned (.slice p (LsS.upto L L.length).ns.length cc)) ∧ RecsAt (LsS.upto L L.length).recs C g c w' ∧ Kept [g] w w' := by
  refine (callsIn_wide (n := 8)).1 ?_
  refine callsIn_of_wp_marks Tryz.func69 rfl trivial ?_ rfl
  simp only [Tryz.ntmps69, List.size_toArray, List.length_cons, List.length_nil, Nat.reduceAdd, Nat.reduceSub, Array.replicate_succ, Array.replicate_zero, List.push_toArray, List.append_toArray, List.nil_append, List.cons_append]
  have HB : Hid (Below w.heap.size w (((w.alloc (.cells #[.pointer (some ⟨C, 0, none⟩)] 34)).alloc (.cells #[.slice none 0 0] 39)).alloc (.cells #[.int .i64 0] 3))) := Lib.hid ((((Kept.refl [] w).alloc _).alloc _).alloc _).below0
  have hsz : (((w.alloc (.cells #[.pointer (some ⟨C, 0, none⟩)] 34)).alloc (.cells #[.slice none 0 0] 39)).alloc (.cells #[.int .i64 0] 3)).heap.size = w.heap.size + 1 + 1 + 1 := by simp
  have k0 : BlkIs #[.pointer (some ⟨C, 0, none⟩)] 34 w.heap.size (((w.alloc (.cells #[.pointer (some ⟨C, 0, none⟩)] 34)).alloc (.cells #[.slice none 0 0] 39)).alloc (.cells #[.int .i64 0] 3)) := ((BlkIs.new _ _ _).alloc _).alloc _
  have k1 : BlkIs #[.slice none 0 0] 39 (w.heap.size + 1) (((w.alloc (.cells #[.pointer (some ⟨C, 0, none⟩)] 34)).alloc (.cells #[.slice none 0 0] 39)).alloc (.cells #[.int .i64 0] 3)) := by
    have := (BlkIs.new #[.slice none 0 0] 39 (w.alloc (.cells #[.pointer (some ⟨C, 0, none⟩)] 34))).alloc (.cells #[.int .i64 0] 3)
    rw [World.size_alloc] at this
    exact this
  have k2 : BlkIs #[.int .i64 0] 3 (w.heap.size + 1 + 1) (((w.alloc (.cells #[.pointer (some ⟨C, 0, none⟩)] 34)).alloc (.cells #[.slice none 0 0] 39)).alloc (.cells #[.int .i64 0] 3)) := by
    have := BlkIs.new #[.int .i64 0] 3 ((w.alloc (.cells #[.pointer (some ⟨C, 0, none⟩)] 34)).alloc (.cells #[.slice none 0 0] 39))
    rw [World.size_alloc, World.size_alloc] at this
    exact this
  have a0 : (((w.alloc (.cells #[.pointer (some ⟨C, 0, none⟩)] 34)).alloc (.cells #[.slice none 0 0] 39)).alloc (.cells #[.int .i64 0] 3)).cell? ⟨C, 0, none⟩ = some (.slice (some ⟨g, 0, none⟩) L.length c) := (h.below HB.out).blk.cell 0
  have a1 := k0.cell 0
  have H3 : Hid (RecsAt L C g c (((w.alloc (.cells #[.pointer (some ⟨C, 0, none⟩)] 34)).alloc (.cells #[.slice none 0 0] 39)).alloc (.cells #[.int .i64 0] 3))) := Lib.hid (h.below HB.out)
  have HLT : Hid (g < w.heap.size ∧ C < w.heap.size) := Lib.hid ⟨h.lt, h.blk.lt⟩
  have K0 := Lib.hid k0
  have K1 := Lib.hid k1
  have K2 := Lib.hid k2
  clear h k0 k1 k2
  gi_wp2
  generalize ((w.alloc (.cells #[.pointer (some ⟨C, 0, none⟩)] 34)).alloc (.cells #[.slice none 0 0] 39)).alloc (.cells #[.int .i64 0] 3) = W1 at *
  obtain ⟨B, hB⟩ : ∃ B, w.heap.size = B := ⟨_, rfl⟩
  rw [hB] at HB hsz a1 HLT K0 K1 K2
  have HBe := Lib.hid hB
  obtain ⟨N, hN⟩ : ∃ N, L.length = N := ⟨_, rfl⟩
  have HNe := Lib.hid hN
  rw [hN] at hns
  have HNS := Lib.hid hns
  have hN2 : N ≤ 200 := by omega
  have hN0 : 0 < N := by omega
  have HC1 : Hid (N ≤ c ∧ c ≤ 9223372036854775807) := Lib.hid ⟨by rw [← hN]; exact H3.out.cap1, H3.out.cap2⟩
  have HI0 : Hid (LoseK L B C g c w 0 (W1.alloc (.cells #[.slice (some ⟨g, 0, none⟩) N c] 98))) := Lib.hid (by
    have hbx := BlkIs.new #[.slice (some ⟨g, 0, none⟩) N c] 98 W1
    rw [hsz] at hbx
    exact ⟨K2.out.alloc _, K0.out.alloc _, ⟨_, K1.out.alloc _, World.ownsRow_nil _ _ _ _⟩, by rw [hN]; exact hbx, H3.out.below (bel_alloc _ _), Kept.of_below _ (by rw [hB]; exact HB.out.trans ((bel_alloc W1 _).mono (by omega))), by rw [World.size_alloc]; omega⟩)
  have hsz2 : (W1.alloc (.cells #[.slice (some ⟨g, 0, none⟩) N c] 98)).heap.size = B + 1 + 1 + 1 + 1 := by rw [World.size_alloc, hsz]
  have HSQ : Hid (RoundsOf Fence.wide 7 Tryz.prog 128 #[.pointer (some ⟨B + 1 + 1 + 1, 0, none⟩)] (seesB g N) (KpB (B + 1 + 1 + 1) g c N) N (W1.alloc (.cells #[.slice (some ⟨g, 0, none⟩) N c] 98))) := Lib.hid (by
    have hgd := HI0.out.good
    rw [hN] at hgd
    exact backR_rounds Fence.wide 7 trivial rfl (by decide) (B + 1 + 1 + 1) g c N (by omega) _ (by rw [hsz2]; omega) (by have := HLT.out.1; rw [hsz2]; omega) hgd HC1.out.1 HC1.out.2)
  rw [hN] at a0 ⊢
  clear hB hN hL hL0 hns H3
  refine ⟨trivial, ?_⟩
  refine (backS_in Fence.wide _ trivial rfl _ _ _ _).mono ?_
  rintro e w2 ⟨rfl, rfl⟩
  rw [hsz, HBe.out]
  generalize W1.alloc (.cells #[.slice (some ⟨g, 0, none⟩) N c] 98) = W2 at *
  clear a0 a1 hsz K0 K1 K2 HB
  gi_wp2
  refine wpIn_rangeFunc_rounds rfl (by decide) (gf := 128) (lb := #[.pointer (some ⟨B + 1 + 1 + 1, 0, none⟩)]) rfl trivial (enters_of Tryz.func128 (by kernel_rfl) rfl)
    HSQ.out (fun h k => KpB.trans h k) (fun W l o o' hl ho hc hw => ?kb) (Below.refl _ _) (fun k W vs h => ?vsz)
    (LoseK L B C g c w) (fun s X Y row hs hg hr => ?own) HI0.out
    (fun k vs a' W => ∃ (b6 n : Nat) (t st : Int), B + 1 + 1 + 1 < b6 ∧ BlkIs #[.int .u64 n, .int .i64 t, .int .i64 st] 103 b6 W ∧ (LsS.upto L k).recs.getD (N - 1 - k) (0, 0, 0) = (n, t, st) ∧ a' = loseAct C B g N c b6 (N - 1 - k) (n, t, st))
    (fun k vs a' _ X Y row hs hg hr => by obtain ⟨b6, n, t, st, h1, h2, h3, h4⟩ := hs; exact ⟨b6, n, t, st, h1, h2.own hg (fun r e => (hr r e).2), h3, h4⟩)
    ?assign ?body ?done
  case kb =>
    have hg0 := HLT.out.1
    rw [hsz2] at hl
    exact KpB.put W l o' (by omega) (by omega)
  case vsz =>
    obtain ⟨n, t, st, _, _, _, rfl⟩ := h
    rfl
  case own =>
    exact hs.own (by rw [HNe.out]; exact hN0) (Nat.le_of_eq HBe.out) hg (fun r e => by have h1 := hr r e; exact ⟨by have := h1.1; omega, h1.2⟩)
  case assign =>
    rintro l k vs W K hI hk ⟨n, t, st, x0, x1, x2, rfl⟩ hK
    have hrc : (LsS.upto L k).recs.getD (N - 1 - k) (0, 0, 0) = (n, t, st) := by
      have hl2 := LsS.upto_len L k
      have hne := HNe.out
      obtain ⟨r, hr⟩ : ∃ r, (LsS.upto L k).recs[N - 1 - k]? = some r := ⟨_, List.getElem?_eq_getElem (by omega)⟩
      obtain ⟨y0, y1, y2⟩ := hI.recs.row _ r hr
      rw [x0] at y0
      rw [x1] at y1
      rw [x2] at y2
      rw [List.getD_eq_getElem?_getD, hr]
      obtain ⟨r1, r2, r3⟩ := r
      simp at y0 y1 y2
      simp
      omega
    have HI := Lib.hid hI
    have HK := Lib.hid hK
    have HRC := Lib.hid hrc
    have hsW := hI.size
    clear hI hK x0 x1 x2 hrc
    gi_wp2
    exact HK.out _ _ ((KeepsOthers.alloc _ _).from _) (fun _ => by have h9 := (HI.out.alloc (.cells #[.int .u64 n, .int .i64 t, .int .i64 st] 103)).good; rw [HNe.out] at h9; exact h9) (HI.out.alloc _) ⟨W.heap.size, n, t, st, by omega, BlkIs.new _ _ _, HRC.out, rfl⟩
  case body =>
    rintro l k vs a' W hl ⟨r, hr⟩ hI hk ⟨b6, n, t, st, hb6, hx6, hrc, rfl⟩
    unfold loseAct
    have HI := Lib.hid hI
    have HRC := Lib.hid hrc
    obtain ⟨b, hbe⟩ : ∃ b, (LsS.upto L k).b = b := ⟨_, rfl⟩
    have HBB := Lib.hid hbe
    have hbm : b ≤ 200 := by have := (LsS.upto_b L k).1; omega
    have c2 : W.cell? ⟨b6, 2, none⟩ = some (.int .i64 st) := hx6.cell 2
    have c0 : W.cell? ⟨b6, 0, none⟩ = some (.int .u64 n) := hx6.cell 0
    have d0 : W.cell? ⟨B + 1 + 1, 0, none⟩ = some (.int .i64 (b : Int)) := by rw [← hbe]; exact hI.b.cell 0
    have df := hI.b.free 0
    have e0 : W.cell? ⟨B, 0, none⟩ = some (.pointer (some ⟨C, 0, none⟩)) := hI.s.cell 0
    have HX6 := Lib.hid hx6
    clear hI hr hrc hbe hx6
    by_cases hst : st = 1
    · subst hst
      have HJ : Hid (LoseK L B C g c w (k + 1) (W.setCell ⟨B + 1 + 1, 0, none⟩ (.int .i64 ((b : Int) + 1)))) := Lib.hid (by
        have h1 := HI.out.got HBe.out HLT.out.1 HLT.out.2 (by rw [HNe.out, HRC.out])
        rw [HBB.out] at h1
        exact h1)
      gi_wp2
      exact ⟨(KeepsOthers.setCell W _ _).from _, fun _ => by have h9 := HJ.out.good; rw [HNe.out] at h9; exact h9, HJ.out⟩
    · by_cases hs0 : st = 0
      · subst hs0
        by_cases hb3 : 3 ≤ b
        · have i1 : decide ((3 : Int) ≤ (b : Int)) = true := decide_eq_true (by omega)
          have i2 : (3 : Int) ≤ (b : Int) := by omega
          obtain ⟨m, hm⟩ : ∃ m, N - 1 - k = m := ⟨_, rfl⟩
          have hmN : m < N := by omega
          have hl2 := LsS.upto_len L k
          have hne := HNe.out
          have e1 : W.cell? ⟨C, 0, none⟩ = some (.slice (some ⟨g, 0, none⟩) N c) := by have h9 := HI.out.recs.blk.cell 0; rw [hl2, hne] at h9; exact h9
          have hat : (LsS.upto L k).recs[m]? = some (n, t, 0) := by
            rw [← HRC.out, hm, List.getD_eq_getElem?_getD, List.getElem?_eq_getElem (by omega)]; rfl
          have e2 : W.cell? ⟨g, m * 3 + 2, none⟩ = some (.int .i64 0) := (HI.out.recs.row m _ hat).2.2
          have f2 := HI.out.recs.free (m * 3 + 2)
          have hc1 := HC1.out.1
          have hc2 := HC1.out.2
          obtain ⟨v, hv1, hv2⟩ := HI.out.ns
          obtain ⟨WX, hWX⟩ : ∃ WX, W.setCell ⟨g, m * 3 + 2, none⟩ (.int .i64 2) = WX := ⟨_, rfl⟩
          have kX : Kept [g] W WX := by rw [← hWX]; exact (Kept.refl _ _).setCell (.inl (by simp)) _
          have hsX : WX.heap.size = W.heap.size := by rw [← hWX]; simp
          have hgB := HLT.out.1
          have hsW := HI.out.size
          have bX : BlkIs #[v] 39 (B + 1) WX := hv1.kept kX (by simp; omega)
          have x6 : BlkIs #[.int .u64 n, .int .i64 t, .int .i64 0] 103 b6 WX := HX6.out.kept kX (by simp; omega)
          have g0 : (W.setCell ⟨g, m * 3 + 2, none⟩ (.int .i64 2)).cell? ⟨B + 1, 0, none⟩ = some v := by rw [hWX]; exact bX.cell 0
          have g1 : (W.setCell ⟨g, m * 3 + 2, none⟩ (.int .i64 2)).cell? ⟨b6, 0, none⟩ = some (.int .u64 n) := by rw [hWX]; exact x6.cell 0
          have HVX : Hid (WX.ownsRow (B + 1 + 1 + 1 + 1) 22 1 v (LsS.upto L k).ns.length ((LsS.upto L k).ns.map nuV)) := Lib.hid (ownsRow_keptC hv2 kX (fun q hq => by have := (hv2.lt q hq).1; simp; omega))
          have HNL : Hid ((LsS.upto L k).ns.length ≤ 200) := Lib.hid (by have := (LsS.upto_b L k).2; omega)
          have HSX : Hid (B + 1 + 1 + 1 + 1 ≤ WX.heap.size) := Lib.hid (by omega)
          have HBX := Lib.hid bX
          have HWX := Lib.hid hWX
          have HSE := Lib.hid hsX
          rw [hm]
          have HM := Lib.hid hm
          have HAT := Lib.hid hat
          clear hm hat hv1 hv2 kX bX x6 hWX hsX hl2 hne HX6
          gi_wp2_with (refine wp_u_in rfl _ _ rfl (B + 1 + 1 + 1 + 1) v (LsS.upto L k).ns rfl WX _ n (by rw [← HWX.out]) HVX.out HSX.out _ (by rw [HSE.out]) rfl (by have := HNL.out; omega) ?_; intro v9 w9 hown9 hb9 hk9; obtain ⟨p9, q9, rfl⟩ := ownU_shape hown9; have k9 : BlkIs #[v] 39 (B + 1) w9 := (hb9.block (B + 1) (by omega)).trans HBX.out; have c9 : w9.cell? ⟨B + 1, 0, none⟩ = some v := k9.cell 0; have f9 := k9.free 0)
          have hJ := HI.out.lost HBe.out HLT.out.1 HLT.out.2 (by rw [HNe.out]; exact hk) (by rw [HNe.out]; exact HRC.out) (by rw [HBB.out]; exact hb3) (show WX = W.setCell ⟨g, (L.length - 1 - k) * 3 + 2, none⟩ (.int .i64 2) by rw [HNe.out, HM.out]; exact HWX.out.symm) _ hown9 hb9
          rw [show ((LsS.upto L k).ns ++ [n]).length = (LsS.upto L k).ns.length + 1 by simp] at hJ
          refine ⟨?_, fun _ => by have h9 := hJ.good; rw [HNe.out] at h9; exact h9, hJ⟩
          have kx : KeepsOthers W WX := by rw [← HWX.out]; exact KeepsOthers.setCell W _ _
          exact ((kx.trans hk9).trans (KeepsOthers.setCell _ _ _)).from _
        · have i1 : decide ((3 : Int) ≤ (b : Int)) = false := decide_eq_false (by omega)
          have i2 : ¬ (3 : Int) ≤ (b : Int) := by omega
          have HJ : Hid (LoseK L B C g c w (k + 1) W) := Lib.hid (HI.out.skip (by rw [HNe.out, HRC.out]; simp) (by rw [HBB.out]; omega))
          gi_wp2
          exact ⟨KeepsFrom.refl _ _, fun x => x, HJ.out⟩
      · have HJ : Hid (LoseK L B C g c w (k + 1) W) := Lib.hid (HI.out.skip (by rw [HNe.out, HRC.out]; exact hst) (by rw [HNe.out, HRC.out]; exact fun h => hs0 h.1))
        gi_wp2
        exact ⟨KeepsFrom.refl _ _, fun x => x, HJ.out⟩
  case done =>
    rintro D W hD hI hK
    obtain ⟨v, hv1, hv2⟩ := hI.ns
    obtain ⟨p, cc, rfl⟩ := ownU_shape hv2
    have hns2 := HNS.out
    have c3 := hv1.cell 0
    simp at c3
    have HI := Lib.hid hI
    obtain ⟨M, hM⟩ : ∃ M, (LsS.upto L N).ns.length = M := ⟨_, rfl⟩
    rw [hM] at hns2 c3
    clear hI hv1 hv2
    gi_wp2
    refine ⟨trivial, ?_⟩
    refine ((callsIn_wide (n := 7)).2 (reverseU_few p M cc hns2 W)).mono ?_
    rintro e w5 ⟨rfl, rfl⟩
    gi_wp2
    refine ⟨by simp, .inl ⟨_, _, rfl, run_takeDeferred hK, ?_⟩⟩
    refine ⟨_, results_tmp rfl _ _ _, ⟨p, cc, by rw [HNe.out, hM]; rfl⟩, ?_, ?_⟩
    · rw [HNe.out]
      exact HI.out.recs.own (by rw [LsS.upto_len, HNe.out]; exact hN0) (grownBy_putObj' w5 D _) (fun r e => by cases e; exact ⟨_, hK, rfl⟩)
    · exact HI.out.kept.grown (grownBy_putObj' w5 D _) (fun q e => by cases e; right; have := HBe.out; omega)
end Go.Proofs.YtkpginmdnlhfbaaGreatDoor

namespace Go.Proofs.YtkpginmdnlhfbaaGreatDoor
open Go.ChangeShapes Go.WideShapes Go.ChangeAt Go.RowKit
set_option linter.unusedVariables false
set_option linter.unusedSimpArgs false

theorem told_is (T : List Int) (hT : ∀ z ∈ T, z = 0 ∨ z = 1 ∨ z = 3) (d : Int) : M.told T d = 0 ∨ M.told T d = 1 ∨ M.told T d = 3 := by
  unfold M.told
  split
  · exact .inr (.inr rfl)
  · rw [List.getD_eq_getElem?_getD]
    cases h : T[d.toNat]? with
    | none => exact .inr (.inr rfl)
    | some z => exact hT z (List.mem_of_getElem? h)
theorem spread_is : ∀ (l : List Cel) (n : Int), mayF n l = true → ∀ z ∈ spreadL l, z = 0 ∨ z = 1 ∨ z = 3 := by
  intro l
  induction l with
  | nil => intro n _ z hz; cases hz
  | cons c l ih =>
    intro n h z hz
    unfold mayF at h
    simp only [Bool.and_eq_true] at h
    rw [show spreadL (c :: l) = List.replicate c.2.toNat c.1 ++ spreadL l from rfl] at hz
    rcases List.mem_append.1 hz with h1 | h1
    · have h2 := h.1
      have h3 := List.eq_of_mem_replicate h1
      unfold celB at h2
      simp only [Bool.and_eq_true, stB, decide_eq_true_eq] at h2
      rw [h3]
      omega
    · exact ih _ h.2.2 z h1
theorem spread_len : ∀ (l : List Cel) (n : Int), 0 ≤ n → n ≤ 1000 → mayF n l = true → n + ((spreadL l).length : Int) ≤ 1000 := by
  intro l
  induction l with
  | nil => intro n _ h1 _; simp [spreadL]; exact h1
  | cons c l ih =>
    intro n h0 h1 h
    unfold mayF at h
    simp only [Bool.and_eq_true, decide_eq_true_eq] at h
    obtain ⟨h2, h3, h4⟩ := h
    unfold celB at h2
    simp only [Bool.and_eq_true, stB, decide_eq_true_eq] at h2
    have := ih (n + c.2) (by omega) h3 h4
    rw [show spreadL (c :: l) = List.replicate c.2.toNat c.1 ++ spreadL l from rfl, List.length_append, List.length_replicate]
    omega
set_option maxRecDepth 100000 in
set_option maxHeartbeats 8000000 in
theorem sentHear_any (L : List Rec) (hL : L.length ≤ 200) (hL0 : 0 < L.length) (ack : Nat) (hack : ack < 18446744073709551616) (now : Int) (hnow : now ≤ 4611686018427387904) (hat : ∀ r ∈ L, 0 ≤ r.2.1 ∧ r.2.1 ≤ now ∧ (r.2.2 = 0 ∨ r.2.2 = 1 ∨ r.2.2 = 2)) (hsm : ∀ r ∈ L, r.1 < 18446744073709551616)
    (l : List Cel) (hmf : mayF 0 l = true) (S : HrS) (hS : HrS.upto (fun r => M.told (spreadL l) (diffI ack r.1)) now L L.length = S)
    (Z : LsS) (hZ : LsS.upto S.recs S.recs.length = Z) (hns : Z.ns.length ≤ 1) (C g c : Nat) (v : Value) (w : World) (h : RecsAt L C g c w) (hv : C2At w v l) :
    Calls Tryz.prog 21 #[.pointer (some ⟨C, 0, none⟩), .int .u64 ack, v, .int .i64 now] w fun e w' => ∃ vG vL vX, e = .returned (.agg #[vG, vL, vX, .int .i64 S.marks, .int .i64 S.rtt]) ∧ (∃ p n, vG = .slice p S.gs.length n) ∧ (∃ p n, vL = .slice p S.ls.length n) ∧ (∃ p n, vX = .slice p Z.ns.length n) ∧ RecsAt Z.recs C g c w' ∧ Kept [g] w w' := by
  obtain ⟨T, hT⟩ : ∃ T, spreadL l = T := ⟨_, rfl⟩
  have hTis : ∀ z ∈ T, z = 0 ∨ z = 1 ∨ z = 3 := by rw [← hT]; exact spread_is l 0 hmf
  have hTlen : T.length ≤ 1000 := by have := spread_len l 0 (by decide) (by decide) hmf; rw [hT] at this; omega
  rw [hT] at hS
  obtain ⟨q, hq⟩ : ∃ q : Rec → Int, q = fun r => M.told T (diffI ack r.1) := ⟨_, rfl⟩
  rw [← hq] at hS
  have hqis : ∀ r, q r = 0 ∨ q r = 1 ∨ q r = 3 := fun r => by rw [hq]; exact told_is T hTis _
  have HQ : Hid (∀ r, q r = M.told T (diffI ack r.1)) := Lib.hid (fun r => by rw [hq])
  have kW : Kept [] w ((w.alloc (.cells (heardCells (.slice none 0 0) 0 0) 41)).alloc (.cells (heardCells (.slice none 0 0) 0 (-1)) 41)) := ((Kept.refl [] w).alloc _).alloc _
  have b8 : BlkIs (heardCells (.slice none 0 0) 0 0) 41 w.heap.size ((w.alloc (.cells (heardCells (.slice none 0 0) 0 0) 41)).alloc (.cells (heardCells (.slice none 0 0) 0 (-1)) 41)) := (BlkIs.new _ _ _).alloc _
  have b9 : BlkIs (heardCells (.slice none 0 0) 0 (-1)) 41 (w.heap.size + 1) ((w.alloc (.cells (heardCells (.slice none 0 0) 0 0) 41)).alloc (.cells (heardCells (.slice none 0 0) 0 (-1)) 41)) := by
    have := BlkIs.new (heardCells (.slice none 0 0) 0 (-1)) 41 (w.alloc (.cells (heardCells (.slice none 0 0) 0 0) 41))
    rw [World.size_alloc] at this
    exact this
  have HV := Lib.hid (hv.below kW.below0)
  have H0 := Lib.hid (h.below kW.below0)
  have HLT : Hid (g < w.heap.size ∧ C < w.heap.size ∧ g ≠ C) := Lib.hid ⟨h.lt, h.blk.lt, h.ne⟩
  obtain ⟨p, cap, rfl, _⟩ := hv.at_
  have HM0 := Lib.hid (fun W (hW : C2At W (.slice p l.length cap) l) => vecMay_any _ _ W hW)
  have HS0 := Lib.hid (fun W (hW : C2At W (.slice p l.length cap) l) => vecSpread_any _ _ W hW)
  have hsr : spreadR l = T := by unfold spreadR; rw [if_pos hmf, hT]
  rw [hmf] at HM0
  rw [hsr] at HS0
  unfold heardCells at b8 b9 kW HV H0
  have K8 := Lib.hid b8
  have K9 := Lib.hid b9
  have KW := Lib.hid kW
  have HHAT := Lib.hid hat
  have HSM := Lib.hid hsm
  have HZ := Lib.hid hZ
  have HNS := Lib.hid hns
  have HSE := Lib.hid hS
  have HTI := Lib.hid hTis
  have HQI := Lib.hid hqis
  clear h hv b8 b9 kW hmf hT hsr hq hat hsm hZ hns hS hTis hqis
  obtain ⟨LN, hLN⟩ : ∃ LN, l.length = LN := ⟨_, rfl⟩
  rw [hLN] at HM0 HS0 HV ⊢
  clear hLN
  go_enter Tryz.func21, Tryz.ntmps21
  go_upto_region 2 with fail
  generalize (w.alloc (Obj.cells #[Value.slice none 0 0, .slice none 0 0, .slice none 0 0, .int .i64 0, .int .i64 0] 41)).alloc (Obj.cells #[Value.slice none 0 0, .slice none 0 0, .slice none 0 0, .int .i64 0, .int .i64 (-1)] 41) = W1 at *
  obtain ⟨A, hA⟩ : ∃ A, w.heap.size = A := ⟨_, rfl⟩
  have HA := Lib.hid hA
  rw [hA] at K8 K9 HLT ⊢
  clear hA
  have HM : Hid (Calls Tryz.prog 63 #[.slice p LN cap] W1 fun e w' => e = .returned (.bool true) ∧ Below W1.heap.size W1 w') := Lib.hid (HM0.out W1 HV.out)
  have HS : Hid (∀ W, Below W1.heap.size W1 W → Calls Tryz.prog 17 #[.slice p LN cap] W fun e w' => ∃ v', e = .returned v' ∧ I64Own W.heap.size v' T W w') := Lib.hid (fun W hb => HS0.out W (HV.out.below hb))
  clear HM0 HS0
  go_upto_region 5 with (first
    | (go_at_call 63; (with_reducible refine HM.out.mono ?_); rintro e W2 ⟨rfl, hb2⟩)
    | (go_at_call 17; (with_reducible refine (HS.out _ hb2).mono ?_); rintro e W3 ⟨vT, rfl, hT⟩))
  have hTS : ∀ b, vT.ownBlock = some b → W2.heap.size ≤ b ∧ b < W3.heap.size := fun b hb => hT.1.lt b hb
  have HTS := Lib.hid hTS
  have HI0 : Hid (HearJ (HrS.upto q now L 0) C g c (A + 1) W3.heap.size W2.heap.size vT T W3 W3) := Lib.hid
    ⟨(H0.out.below hb2).below hT.2.1, ⟨.slice none 0 0, .slice none 0 0, ⟨(K9.out.below hb2).below hT.2.1, World.ownsRow_nil _ _ _ _, World.ownsRow_nil _ _ _ _, fun q hq => (by cases hq), fun q hq => (by cases hq), fun q hq => (by cases hq)⟩, fun q hq => (by cases hq), fun q hq => (by cases hq)⟩, hT.1, Kept.refl _ _⟩
  have HK8 : Hid (BlkIs #[Value.slice none 0 0, .slice none 0 0, .slice none 0 0, .int .i64 0, .int .i64 0] 41 A W3) := Lib.hid ((K8.out.below hb2).below hT.2.1)
  have HKW : Hid (Kept [] w W3) := Lib.hid ((KW.out.trans' (Kept.of_below [] hb2)).trans' (Kept.of_below [] hT.2.1))
  have HSZ : Hid (A + 1 < W2.heap.size ∧ W2.heap.size ≤ W3.heap.size) := Lib.hid ⟨(K9.out.below hb2).lt, hT.2.1.size⟩
  have HKD : Hid (A + 1 < W2.heap.size ∧ g < W2.heap.size ∧ C ≠ A + 1 ∧ C < W3.heap.size ∧ g ≠ A + 1 ∧ g < W3.heap.size) := Lib.hid (by have h1 := HLT.out; have h2 := HSZ.out; omega)
  have c0 : W3.cell? ⟨C, 0, none⟩ = some (.slice (some ⟨g, 0, none⟩) L.length c) := HI0.out.recs.blk.cell 0
  obtain ⟨N, hN⟩ : ∃ N, L.length = N := ⟨_, rfl⟩
  have HN := Lib.hid hN
  rw [hN] at c0 hL hL0
  clear hT hb2 hTS hN
  go_upto_region 6 with fail
  go_loopw [28] (fun i wr => ∃ k : Nat, k ≤ N ∧ i = .int .i64 (k : Int) ∧ Hid (HearJ (HrS.upto q now L k) C g c (A + 1) W3.heap.size W2.heap.size vT T W3 wr)) (fun i _ => N - (intOf i).toNat)
  case atStart => exact ⟨0, Nat.zero_le _, rfl, HI0⟩
  case round =>
    obtain ⟨k, hk, rfl, hi⟩ := hrel
    by_cases hlt : k < N
    · clear HI0 c0
      have x0 : wr.cell? ⟨C, 0, none⟩ = some (.slice (some ⟨g, 0, none⟩) N c) := by
        have h1 := hi.out.recs.blk.cell 0
        rw [HrS.upto_len, HN.out] at h1
        exact h1
      obtain ⟨r, hr⟩ : ∃ r, L.getD k (0, 0, 0) = r := ⟨_, rfl⟩
      have hat0 := HrS.upto_at q now L k (by rw [HN.out]; exact hlt)
      rw [hr] at hat0
      have hrm : r ∈ L := by rw [← hr, List.getD_eq_getElem?_getD, List.getElem?_eq_getElem (by rw [HN.out]; exact hlt)]; exact List.getElem_mem _
      have x1 : wr.cell? ⟨g, k * 3, none⟩ = some (.int .u64 r.1) := (hi.out.recs.row k _ hat0).1
      have HSO : Hid (∀ n, Calls Tryz.prog 68 #[.int .u64 r.1, .int .u64 ack, vT] (wr.drewN n) fun e w' => e = .returned (.int .i64 (q r)) ∧ w' = wr.drewN n) := Lib.hid (fun n => by
        have hT2 : I64At (wr.drewN n) vT T := by
          have h1 := (hi.out.drew n).told
          have hz := hi.out.kept.size
          have hz2 := HSZ.out
          exact I64Own.at (W0 := wr.drewN n) ⟨h1, Below.refl _ _, by rw [show (wr.drewN n).heap.size = wr.heap.size from rfl]; omega⟩ (by omega) (fun i => by
            rw [List.getD_eq_getElem?_getD]
            cases h2 : T[i]? with
            | none => exact (by decide : -9223372036854775808 ≤ (0 : Int) ∧ (0 : Int) ≤ 9223372036854775807)
            | some z => have h3 := HTI.out z (List.mem_of_getElem? h2); simp only [Option.getD_some]; omega)
        have h2 := sentStateOf_any r.1 ack _ (fun W => seqDiff_any ack r.1 hack (HSM.out r hrm) W) vT T (wr.drewN n) hT2
        rw [← HQ.out r] at h2
        exact h2)
      have HTK : Hid (∀ n, Calls Tryz.prog 67 #[.pointer (some ⟨A + 1, 0, none⟩), .pointer (some ⟨g, k * 3, none⟩), .int .i64 (q r), .int .i64 now] (wr.drewN n) fun e w' => e = .returned (.tuple #[]) ∧ HearJ (HrS.upto q now L (k + 1)) C g c (A + 1) W3.heap.size W2.heap.size vT T W3 w') := Lib.hid (fun n => by
        have h1 := hearJ_take q HQI.out L (by rw [HN.out]; exact hL) now hnow HHAT.out k (by rw [HN.out]; exact hlt) C g c (A + 1) W3.heap.size W2.heap.size vT T W3 (wr.drewN n) (hi.out.drew n) rfl HKD.out HTS.out
        rw [hr] at h1
        exact h1)
      obtain ⟨z, hz⟩ : ∃ z, q r = z := ⟨_, rfl⟩
      rw [hz] at HSO HTK
      obtain ⟨rn, rt, rst⟩ := r
      simp only at x1 HSO
      clear hat0 hrm hr hz hi
      go_wp2
      go_region_with (first
        | (go_at_call 68; (refine (HSO.out _).mono ?_); rintro e w5 ⟨rfl, rfl⟩)
        | (go_at_call 67; (refine (HTK.out _).mono ?_); rintro e w6 ⟨rfl, hi6⟩))
      all_goals (
        go_wp2
        go_roundw
        case rel => exact ⟨k + 1, by omega, by go_num, Lib.hid hi6⟩
        case measure => simp [intOf]; omega)
    · obtain rfl : k = N := by omega
      clear HI0 c0
      rw [show HrS.upto q now L k = S by rw [← HSE.out, HN.out]] at hi
      obtain ⟨vG, vL, hh, hvG, hvL⟩ := hi.out.heard
      obtain ⟨pG, nG, hvG2⟩ : ∃ p n, vG = .slice p S.gs.length n := by
        rcases hh.rowG.2 with ⟨h1, h2⟩ | ⟨g', cap', cur, h1, _⟩
        · exact ⟨none, 0, by rw [h1, h2]⟩
        · exact ⟨_, _, h1⟩
      obtain ⟨pL, nL, hvL2⟩ : ∃ p n, vL = .slice p S.ls.length n := by
        rcases hh.rowL.2 with ⟨h1, h2⟩ | ⟨g', cap', cur, h1, _⟩
        · exact ⟨none, 0, by rw [h1, h2]⟩
        · exact ⟨_, _, h1⟩
      subst hvG2
      subst hvL2
      have hlt0 := HLT.out
      have kA : BlkIs #[Value.slice none 0 0, .slice none 0 0, .slice none 0 0, .int .i64 0, .int .i64 0] 41 A wr := HK8.out.kept hi.out.kept (by simp; omega)
      have HE : Hid (RecsAt S.recs C g c wr ∧ Kept [A + 1, g] W3 wr) := Lib.hid ⟨hi.out.recs, hi.out.kept⟩
      have HKA := Lib.hid kA
      have HKH : Hid (BlkIs #[(.slice pG S.gs.length nG), (.slice pL S.ls.length nL), .slice none 0 0, .int .i64 S.marks, .int .i64 S.rtt] 41 (A + 1) wr) := Lib.hid hh.blk
      have hSl : S.recs.length = k := by rw [← HSE.out, HrS.upto_len, HN.out]
      have HL : Hid (Calls Tryz.prog 69 #[.pointer (some ⟨C, 0, none⟩)] wr fun e w' => (∃ p cc, e = .returned (.slice p Z.ns.length cc)) ∧ RecsAt Z.recs C g c w' ∧ Kept [g] wr w') := Lib.hid (by
        have h1 := sentLose_any S.recs (by omega) (by omega) (by rw [HZ.out]; exact HNS.out) C g c wr hi.out.recs
        rw [HZ.out] at h1
        exact h1)
      obtain ⟨M3, hM3⟩ : ∃ M3, Z.ns.length = M3 := ⟨_, rfl⟩
      rw [hM3] at HL
      have HM3 := Lib.hid hM3
      have hsame : Hid (S = S) := Lib.hid rfl
      obtain ⟨sm, hsm⟩ : ∃ z, S.marks = z := ⟨_, rfl⟩
      obtain ⟨sr, hsr⟩ : ∃ z, S.rtt = z := ⟨_, rfl⟩
      rw [hsm, hsr] at HKH
      have HMK := Lib.hid hsm
      have HRK := Lib.hid hsr
      have x0 : wr.cell? ⟨C, 0, none⟩ = some (.slice (some ⟨g, 0, none⟩) k c) := by have h1 := hi.out.recs.blk.cell 0; rw [hSl] at h1; exact h1
      clear hi hh kA hlt0 hvG hvL hsm hsr hSl hM3 HQ HQI HSE HSM HHAT HTI
      go_upto_region 11 with (go_at_call 69; (with_reducible refine HL.out.mono ?_); rintro e W6 ⟨⟨p3, c3, rfl⟩, hr6, hk6⟩; have kH6 := HKH.out.kept hk6 (by have := HLT.out; simp; omega); have z2 : W6.cell? ⟨A + 1, 2, none⟩ = some (.slice none 0 0) := BlkIs.cell kH6 2; have zf := BlkIs.free kH6 2)
      have kA6 := HKA.out.kept hk6 (by have := HLT.out; simp; omega)
      have k10 := kH6.set 2 (.slice p3 M3 c3)
      have H11 : Hid (RecsAt Z.recs C g c (W6.setCell ⟨A + 1, 2, none⟩ (.slice p3 M3 c3)) ∧ Kept [A + 1, g] W3 (W6.setCell ⟨A + 1, 2, none⟩ (.slice p3 M3 c3))) := Lib.hid ⟨hr6.kept ((Kept.refl [A + 1] W6).setCell (.inl (by simp)) _) (by simp; have := HLT.out; omega) (by simp; have := HLT.out; omega), (HE.out.2.trans' (hk6.more (by simp))).setCell (.inl (by simp)) _⟩
      have k11 := kA6.far (show A ≠ (⟨A + 1, 2, none⟩ : Addr).block by simp) (.slice p3 M3 c3)
      generalize W6.setCell ⟨A + 1, 2, none⟩ (.slice p3 M3 c3) = W7 at *
      have y0 : W7.cell? ⟨A + 1, 0, none⟩ = some (.slice pG S.gs.length nG) := BlkIs.cell k10 0
      have y1 : W7.cell? ⟨A + 1, 1, none⟩ = some (.slice pL S.ls.length nL) := BlkIs.cell k10 1
      have y2 : W7.cell? ⟨A + 1, 2, none⟩ = some (.slice p3 M3 c3) := BlkIs.cell k10 2
      have y3 : W7.cell? ⟨A + 1, 3, none⟩ = some (.int .i64 sm) := BlkIs.cell k10 3
      have y4 : W7.cell? ⟨A + 1, 4, none⟩ = some (.int .i64 sr) := BlkIs.cell k10 4
      have v0 : W7.cell? ⟨A, 0, none⟩ = some (.slice none 0 0) := BlkIs.cell k11 0
      have v1 : W7.cell? ⟨A, 1, none⟩ = some (.slice none 0 0) := BlkIs.cell k11 1
      have v2 : W7.cell? ⟨A, 2, none⟩ = some (.slice none 0 0) := BlkIs.cell k11 2
      have v3 : W7.cell? ⟨A, 3, none⟩ = some (.int .i64 0) := BlkIs.cell k11 3
      have v4 : W7.cell? ⟨A, 4, none⟩ = some (.int .i64 0) := BlkIs.cell k11 4
      have vf := BlkIs.free k11
      have K11 := Lib.hid k11
      clear z2 zf kH6 kA6 k10 k11 hr6 hk6 HKA HKH HL
      go_wp2
      have kb := ((((K11.out.set 0 (.slice pG S.gs.length nG)).set 1 (.slice pL S.ls.length nL)).set 2 (.slice p3 M3 c3)).set 3 (.int .i64 sm)).set 4 (.int .i64 sr)
      have kr := ((((((Kept.refl [A] W7).setCell (p := ⟨A, 0, none⟩) (.inl (by simp)) (.slice pG S.gs.length nG)).setCell (p := ⟨A, 1, none⟩) (.inl (by simp)) (.slice pL S.ls.length nL)).setCell (p := ⟨A, 2, none⟩) (.inl (by simp)) (.slice p3 M3 c3)).setCell (p := ⟨A, 3, none⟩) (.inl (by simp)) (.int .i64 sm)).setCell (p := ⟨A, 4, none⟩) (.inl (by simp)) (.int .i64 sr))
      have hA := HA.out
      have hlt2 := HLT.out
      refine bodyPost_ret (results_cell_row Tryz.results21 _ _ A 41 #[(.slice pG S.gs.length nG), (.slice pL S.ls.length nL), .slice p3 M3 c3, .int .i64 sm, .int .i64 sr] (0, 0) _ rfl kb Tryz.underlying41 rfl (by kernel_rfl)) rfl ?_
      refine ⟨(.slice pG S.gs.length nG), (.slice pL S.ls.length nL), .slice p3 M3 c3, by rw [HMK.out, HRK.out], ⟨pG, nG, rfl⟩, ⟨pL, nL, rfl⟩, ⟨p3, c3, by rw [HM3.out]⟩, H11.out.1.kept kr (by simp; omega) (by simp; omega), ?_⟩
      have k1 : Kept [g] w W7 := (HKW.out.more (fun x hx => by cases hx)).trans H11.out.2 (fun x hx => by
        simp at hx
        rcases hx with rfl | rfl
        · right; omega
        · left; simp)
      exact k1.trans kr (fun x hx => by simp at hx; right; omega)
end Go.Proofs.YtkpginmdnlhfbaaGreatDoor

namespace Go.Proofs.YtkpginmdnlhfbaaGreatDoor
open Go.ChangeShapes Go.WideShapes Go.ChangeAt Go.RowKit
set_option linter.unusedVariables false
set_option linter.unusedSimpArgs false

theorem HrS.upto_cur (q : Rec → Int) (now : Int) (L : List Rec) (k : Nat) (hk : k < L.length) : (HrS.upto q now L k).recs.getD k (0, 0, 0) = L.getD k (0, 0, 0) := by rw [HrS.upto_get q now L k k hk, if_neg (by omega)]
theorem HrS.gs_succ (q : Rec → Int) (now : Int) (L : List Rec) (k : Nat) (hk : k < L.length) : (HrS.upto q now L (k + 1)).gs = (HrS.upto q now L k).gs ++ M.takeG (q (L.getD k (0, 0, 0))) (L.getD k (0, 0, 0)) := by
  have h := HrS.upto_cur q now L k hk
  show (HrS.upto q now L k).gs ++ _ = _
  rw [h]
theorem HrS.ls_succ (q : Rec → Int) (now : Int) (L : List Rec) (k : Nat) (hk : k < L.length) : (HrS.upto q now L (k + 1)).ls = (HrS.upto q now L k).ls ++ M.takeL (q (L.getD k (0, 0, 0))) (L.getD k (0, 0, 0)) := by
  have h := HrS.upto_cur q now L k hk
  show (HrS.upto q now L k).ls ++ _ = _
  rw [h]
theorem HrS.marks_succ (q : Rec → Int) (now : Int) (L : List Rec) (k : Nat) (hk : k < L.length) : (HrS.upto q now L (k + 1)).marks = (HrS.upto q now L k).marks + M.takeM (q (L.getD k (0, 0, 0))) (L.getD k (0, 0, 0)) := by
  have h := HrS.upto_cur q now L k hk
  show (HrS.upto q now L k).marks + _ = _
  rw [h]
theorem HrS.rtt_succ (q : Rec → Int) (now : Int) (L : List Rec) (k : Nat) (hk : k < L.length) : (HrS.upto q now L (k + 1)).rtt = M.takeT (q (L.getD k (0, 0, 0))) now (L.getD k (0, 0, 0)) (HrS.upto q now L k).rtt := by
  have h := HrS.upto_cur q now L k hk
  show M.takeT _ now _ (HrS.upto q now L k).rtt = _
  rw [h]
theorem getD_ext (L M : List Rec) (hl : M.length = L.length) (h : ∀ i, i < L.length → M.getD i (0, 0, 0) = L.getD i (0, 0, 0)) : M = L := by
  apply List.ext_getElem hl
  intro i h1 h2
  have h3 := h i h2
  rw [List.getD_eq_getElem?_getD, List.getD_eq_getElem?_getD, List.getElem?_eq_getElem h1, List.getElem?_eq_getElem h2] at h3
  exact h3
/-- Nothing is told of any that is not got. -/
theorem hear_nothing (q : Rec → Int) (now : Int) (L : List Rec) (h : ∀ i, i < L.length → q (L.getD i (0, 0, 0)) = 3 ∨ (L.getD i (0, 0, 0)).2.2 = 1) : HrS.upto q now L L.length = ⟨L, [], [], 0, -1⟩ := by
  have key : ∀ k, k ≤ L.length → HrS.upto q now L k = ⟨L, [], [], 0, -1⟩ := by
    intro k
    induction k with
    | zero => intro _; rfl
    | succ k ih =>
      intro hk
      have h1 := ih (by omega)
      have h2 := h k (by omega)
      show (HrS.upto q now L k).step q now k = _
      rw [h1]
      unfold HrS.step
      simp only
      have e1 : M.takeR (q (L.getD k (0, 0, 0))) (L.getD k (0, 0, 0)) = L.getD k (0, 0, 0) := if_pos h2
      have e2 : M.takeG (q (L.getD k (0, 0, 0))) (L.getD k (0, 0, 0)) = [] := if_pos (h2.elim .inl (fun h => .inr (.inl h)))
      have e3 : M.takeL (q (L.getD k (0, 0, 0))) (L.getD k (0, 0, 0)) = [] := if_pos (h2.elim .inl (fun h => .inr (.inl h)))
      have e4 : M.takeM (q (L.getD k (0, 0, 0))) (L.getD k (0, 0, 0)) = 0 := if_pos h2
      have e5 : M.takeT (q (L.getD k (0, 0, 0))) now (L.getD k (0, 0, 0)) (-1) = -1 := if_pos (h2.elim .inl (fun h => .inr (.inl h)))
      rw [e1, e2, e3, e4, e5]
      congr 1
      apply getD_ext
      · rw [List.length_set]
      · intro i hi
        rw [List.getD_eq_getElem?_getD, List.getElem?_set]
        by_cases e : k = i
        · subst e; rw [if_pos rfl, if_pos hi]; rfl
        · rw [if_neg e, ← List.getD_eq_getElem?_getD]
  exact key _ (Nat.le_refl _)
/-- The first W + 1 of those that are out are got; nothing is told of the others. -/
theorem hear_first (q : Rec → Int) (now : Int) (L : List Rec) (W : Nat) (hW : W < L.length) (h0 : ∀ i, i < L.length → (L.getD i (0, 0, 0)).2.2 = 0) (h : ∀ i, i < L.length → q (L.getD i (0, 0, 0)) = if i ≤ W then 0 else 3) :
    (HrS.upto q now L L.length).gs.length = W + 1 ∧ (HrS.upto q now L L.length).ls = [] ∧ (HrS.upto q now L L.length).marks = 0 ∧ (HrS.upto q now L L.length).rtt = now - (L.getD W (0, 0, 0)).2.1 ∧
      ∀ i, i < L.length → (HrS.upto q now L L.length).recs.getD i (0, 0, 0) = if i ≤ W then ((L.getD i (0, 0, 0)).1, (L.getD i (0, 0, 0)).2.1, 1) else L.getD i (0, 0, 0) := by
  have key : ∀ k, k ≤ L.length → (HrS.upto q now L k).gs.length = min k (W + 1) ∧ (HrS.upto q now L k).ls = [] ∧ (HrS.upto q now L k).marks = 0 ∧ (0 < k → (HrS.upto q now L k).rtt = now - (L.getD (min (k - 1) W) (0, 0, 0)).2.1) := by
    intro k
    induction k with
    | zero => intro _; exact ⟨by simp [HrS.upto], rfl, rfl, fun h => by omega⟩
    | succ k ih =>
      intro hk
      obtain ⟨i1, i2, i3, i4⟩ := ih (by omega)
      have hz := h0 k (by omega)
      have hq := h k (by omega)
      rw [HrS.gs_succ q now L k (by omega), HrS.ls_succ q now L k (by omega), HrS.marks_succ q now L k (by omega), HrS.rtt_succ q now L k (by omega), List.length_append, i1, i2, i3, hq]
      unfold M.takeG M.takeL M.takeM M.takeT
      rw [hz]
      by_cases hk2 : k ≤ W
      · rw [if_pos hk2]
        refine ⟨by simp; omega, by simp, by simp, fun _ => ?_⟩
        rw [if_neg (by decide), show min (k + 1 - 1) W = k by omega]
      · rw [if_neg hk2]
        refine ⟨by simp; omega, by simp, by simp, fun _ => ?_⟩
        rw [if_pos (.inl rfl), i4 (by omega)]
        rw [show min (k - 1) W = W by omega, show min (k + 1 - 1) W = W by omega]
  obtain ⟨k1, k2, k3, k4⟩ := key L.length (Nat.le_refl _)
  refine ⟨by rw [k1]; omega, k2, k3, by rw [k4 (by omega), show min (L.length - 1) W = W by omega], fun i hi => ?_⟩
  rw [HrS.upto_get q now L L.length i hi, if_pos hi, h i hi]
  unfold M.takeR
  rw [h0 i hi]
  by_cases hk2 : i ≤ W
  · rw [if_pos hk2, if_pos hk2, if_neg (by decide)]
  · rw [if_neg hk2, if_neg hk2, if_pos (.inl rfl)]
/-- Nothing is lost behind which fewer than three were got. -/
theorem lose_no (L : List Rec) (h : ∀ k, k < L.length → (L.getD (L.length - 1 - k) (0, 0, 0)).2.2 = 0 → (LsS.upto L k).b < 3) : (LsS.upto L L.length).ns = [] ∧ (LsS.upto L L.length).recs = L := by
  have key : ∀ k, k ≤ L.length → (LsS.upto L k).ns = [] ∧ (LsS.upto L k).recs = L := by
    intro k
    induction k with
    | zero => intro _; exact ⟨rfl, rfl⟩
    | succ k ih =>
      intro hk
      obtain ⟨i1, i2⟩ := ih (by omega)
      have h2 := h k (by omega)
      unfold LsS.upto LsS.step
      rw [i2]
      split
      · exact ⟨i1, rfl⟩
      · split
        · rename_i h3 h4
          exact absurd h4.2 (by have := h2 h4.1; omega)
        · exact ⟨i1, i2⟩
  exact key _ (Nat.le_refl _)
theorem lose_b0 (L : List Rec) (k : Nat) (hk : k ≤ L.length) (h : ∀ i, L.length - k ≤ i → i < L.length → (L.getD i (0, 0, 0)).2.2 ≠ 1) : (LsS.upto L k).b = 0 := by
  induction k with
  | zero => rfl
  | succ k ih =>
    have i1 := ih (by omega) (fun i h1 h2 => h i (by omega) h2)
    have h2 := h (L.length - 1 - k) (by omega) (by omega)
    have h3 := LsS.upto_low L k (L.length - 1 - k) (by omega)
    unfold LsS.upto LsS.step
    rw [h3, if_neg h2]
    split
    · exact i1
    · exact i1
end Go.Proofs.YtkpginmdnlhfbaaGreatDoor

namespace Go.Proofs.YtkpginmdnlhfbaaGreatDoor
open Go.ChangeShapes Go.WideShapes Go.ChangeAt Go.RowKit
set_option linter.unusedVariables false
set_option linter.unusedSimpArgs false

theorem infoI64s : (Tryz.prog.info? 2).map (fun i => (i.zero, i.size, i.bytes)) = some (some (.int .i64 0), 1, 8) := by kernel_rfl
/-- What was sent: its numbers rise from s on, its times are so late at most, all are out. -/
structure SntI (s : Nat → Nat) (T : Int) (L : List Rec) : Prop where
  num : ∀ j, j < L.length → (L.getD j (0, 0, 0)).1 = s j
  time : ∀ j, j < L.length → 0 ≤ (L.getD j (0, 0, 0)).2.1 ∧ (L.getD j (0, 0, 0)).2.1 ≤ T
  out : ∀ j, j < L.length → (L.getD j (0, 0, 0)).2.2 = 0
theorem getD_snocR (L : List Rec) (r : Rec) (j : Nat) : (L ++ [r]).getD j (0, 0, 0) = if j < L.length then L.getD j (0, 0, 0) else if j = L.length then r else (0, 0, 0) := by
  by_cases h : j < L.length
  · rw [if_pos h, List.getD_eq_getElem?_getD, List.getElem?_append_left h, ← List.getD_eq_getElem?_getD]
  · rw [if_neg h, List.getD_eq_getElem?_getD, List.getElem?_append_right (by omega)]
    by_cases h2 : j = L.length
    · subst h2; simp
    · rw [if_neg h2, List.getElem?_eq_none (by simp; omega)]; rfl
theorem SntI.snoc {s : Nat → Nat} {T T2 : Int} {L : List Rec} (h : SntI s T L) (hT : T ≤ T2) (h0 : 0 ≤ T2) : SntI s T2 (L ++ [(s L.length, T2, 0)]) := by
  refine ⟨fun j hj => ?_, fun j hj => ?_, fun j hj => ?_⟩
  all_goals
    rw [List.length_append] at hj
    simp only [List.length_cons, List.length_nil] at hj
    rw [getD_snocR]
    by_cases e : j < L.length
    · rw [if_pos e]
      first
        | exact h.num j e
        | (have := h.time j e; exact ⟨this.1, by omega⟩)
        | exact h.out j e
    · have e2 : j = L.length := by omega
      rw [if_neg e, if_pos e2]
      try (subst e2; first | rfl | exact ⟨h0, Int.le_refl _⟩)
theorem SntI.outs {s : Nat → Nat} {T : Int} {L : List Rec} (h : SntI s T L) : M.outs L = L.length := by
  unfold M.outs
  rw [List.countP_eq_length]
  intro r hr
  obtain ⟨j, hj, rfl⟩ := List.getElem_of_mem hr
  have := h.out j hj
  rw [List.getD_eq_getElem?_getD, List.getElem?_eq_getElem hj] at this
  simpa using this
theorem mem_getD (L : List Rec) (r : Rec) (hr : r ∈ L) : ∃ j, j < L.length ∧ L.getD j (0, 0, 0) = r := by
  obtain ⟨j, hj, rfl⟩ := List.getElem_of_mem hr
  exact ⟨j, hj, by rw [List.getD_eq_getElem?_getD, List.getElem?_eq_getElem hj]; rfl⟩
/-- What was sent lies so. -/
structure SntW (s : Nat → Nat) (T : Int) (L : List Rec) (C B : Nat) (v : Value) (w0 W : World) : Prop where
  inv : SntI s T L
  at_ : SentAt L C v W
  nil : L = [] → v = .slice none 0 0
  blk : ∀ g, v.ownBlock = some g → B ≤ g
  below : Below B w0 W
  size : B ≤ C ∧ w0.heap.size = B
theorem SntW.kept {s : Nat → Nat} {T : Int} {L : List Rec} {C B : Nat} {v : Value} {S : List Nat} {w0 W W' : World} (h : SntW s T L C B v w0 W) (k : Kept S W W') (h1 : C ∉ S) (h2 : ∀ g, v.ownBlock = some g → g ∉ S) (h3 : ∀ x, x ∈ S → B ≤ x) : SntW s T L C B v w0 W' :=
  ⟨h.inv, h.at_.kept k h1 h2, h.nil, h.blk, h.below.trans (k.below (by have := h.below.size; have := h.size.2; omega) h3), h.size⟩
theorem SntW.start (s : Nat → Nat) (C B : Nat) (w0 W : World) (h : SentAt [] C (.slice none 0 0) W) (hb : Below B w0 W) (hB : B ≤ C ∧ w0.heap.size = B) : SntW s 0 [] C B (.slice none 0 0) w0 W :=
  ⟨⟨fun j hj => by simp at hj, fun j hj => by simp at hj, fun j hj => by simp at hj⟩, h, fun _ => rfl, fun g hg => (by cases hg), hb, hB⟩
theorem SntW.put {s : Nat → Nat} {T T2 : Int} {L : List Rec} {C B : Nat} {v : Value} {w0 W : World} (h : SntW s T L C B v w0 W) (hs : ∀ j, s j < 281474976710656) (hd : ∀ j, j < 200 → diffI (s j) (s (j + 1)) < 0) (hL : L.length < 200) (hT : T ≤ T2) (h0 : 0 ≤ T2) (h1 : T2 ≤ 4611686018427387904) :
    Calls Tryz.prog 20 #[.pointer (some ⟨C, 0, none⟩), .int .u64 (s L.length), .int .i64 T2] W fun e w' => e = .returned (.bool true) ∧ ∃ v', SntW s T2 (L ++ [(s L.length, T2, 0)]) C B v' w0 w' ∧ (∃ g c, v' = .slice (some ⟨g, 0, none⟩) (L.length + 1) c) ∧ Kept (C :: own v) W w' := by
  refine (sentPut_any2 L hL (s L.length) (hs _) (fun r hr => ?_) T2 h0 h1 C v h.nil W h.at_).mono ?_
  · rw [List.getLast?_eq_getElem?] at hr
    have hl : L.length - 1 < L.length := (List.getElem?_eq_some_iff.1 hr).1
    have h2 := h.inv.num (L.length - 1) hl
    rw [List.getD_eq_getElem?_getD, hr] at h2
    have h3 := hd (L.length - 1) (by omega)
    rw [show L.length - 1 + 1 = L.length by omega] at h3
    simp only [Option.getD_some] at h2
    rw [h2]
    exact ⟨hs _, h3⟩
  · rintro e w' ⟨g, c, rfl, h2, h3, h4⟩
    have hsz := h.below.size
    have hsz2 := h.size
    refine ⟨rfl, _, ⟨h.inv.snoc hT h0, h2, fun e => by simp at e, fun g' hg' => ?_, h.below.trans (h3.below (by omega) fun x hx => ?_), h.size⟩, ⟨g, c, rfl⟩, h3⟩
    · have e1 : g = g' := by simpa [Value.ownBlock] using hg'
      subst e1
      rcases h4 with h4 | h4
      · exact h.blk g h4
      · omega
    · rcases List.mem_cons.1 hx with e | e
      · omega
      · exact ownS h.blk e
/-- Rows of different types are different blocks. -/
theorem own_apart {w : World} {B B' T T' n n' sz sz' : Nat} {v v' : Value} {xs xs' : List Value} (h : w.ownsRow B T sz v n xs) (h' : w.ownsRow B' T' sz' v' n' xs') (hT : T ≠ T') : ∀ g, v.ownBlock = some g → v'.ownBlock ≠ some g := by
  intro g hg hg'
  rcases h.2 with ⟨rfl, _⟩ | ⟨a, cap, cur, rfl, _, ha, _⟩
  · cases hg
  · rcases h'.2 with ⟨rfl, _⟩ | ⟨b, cap', cur', rfl, _, hb, _⟩
    · cases hg'
    · have e1 : a = g := by simpa [Value.ownBlock] using hg
      have e2 : b = g := by simpa [Value.ownBlock] using hg'
      subst e1 e2
      rw [ha] at hb
      injection hb with hb
      injection hb with _ hb _
      exact hT hb
theorem own_blk {w : World} {B T n sz C T' : Nat} {v : Value} {xs : List Value} {cs : Array Value} (h : w.ownsRow B T sz v n xs) (h' : BlkIs cs T' C w) (hT : T ≠ T') : v.ownBlock ≠ some C := by
  intro hg
  rcases h.2 with ⟨rfl, _⟩ | ⟨a, cap, cur, rfl, _, ha, _⟩
  · cases hg
  · have e1 : a = C := by simpa [Value.ownBlock] using hg
    subst e1
    unfold BlkIs at h'
    rw [ha] at h'
    injection h' with h'
    injection h' with _ h' _
    exact hT h'
/-- The first W + 1 of these were got. -/
structure GotI (W : Nat) (L L1 : List Rec) : Prop where
  len : L1.length = L.length
  get : ∀ i, i < L.length → L1.getD i (0, 0, 0) = if i ≤ W then ((L.getD i (0, 0, 0)).1, (L.getD i (0, 0, 0)).2.1, 1) else L.getD i (0, 0, 0)
theorem lose_first {s : Nat → Nat} {T : Int} {L L1 : List Rec} (W : Nat) (hI : SntI s T L) (hG : GotI W L L1) : (LsS.upto L1 L1.length).ns = [] ∧ (LsS.upto L1 L1.length).recs = L1 := by
  refine lose_no L1 fun k hk h0 => ?_
  have hl := hG.len
  rw [hG.get _ (by omega)] at h0
  by_cases h1 : L1.length - 1 - k ≤ W
  · rw [if_pos h1] at h0
    cases h0
  · have : (LsS.upto L1 k).b = 0 := lose_b0 L1 k (by omega) (fun i h2 h3 => by
      rw [hG.get i (by omega), if_neg (by omega), hI.out i (by omega)]
      decide)
    omega
/-- The first ones are heard of. -/
theorem hearFirst {s : Nat → Nat} {T : Int} {L : List Rec} (hI : SntI s T L) (W : Nat) (hW : W < L.length) (hL : L.length ≤ 200) (hs : ∀ j, s j < 18446744073709551616) (ack : Nat) (hack : ack < 18446744073709551616) (now : Int) (hn : T ≤ now) (hn2 : now ≤ 4611686018427387904)
    (l : List Cel) (hmf : mayF 0 l = true) (htold : ∀ i, i < L.length → M.told (spreadL l) (diffI ack (s i)) = if i ≤ W then 0 else 3) (C g c : Nat) (v : Value) (w : World) (h : RecsAt L C g c w) (hv : C2At w v l) :
    Calls Tryz.prog 21 #[.pointer (some ⟨C, 0, none⟩), .int .u64 ack, v, .int .i64 now] w fun e w' => ∃ pG nG pL nL pX nX L1, e = .returned (.agg #[.slice pG (W + 1) nG, .slice pL 0 nL, .slice pX 0 nX, .int .i64 0, .int .i64 (now - (L.getD W (0, 0, 0)).2.1)]) ∧ RecsAt L1 C g c w' ∧ Kept [g] w w' ∧ GotI W L L1 := by
  obtain ⟨f1, f2, f3, f4, f5⟩ := hear_first (fun r => M.told (spreadL l) (diffI ack r.1)) now L W hW hI.out (fun i hi => by
    show M.told (spreadL l) (diffI ack (L.getD i (0, 0, 0)).1) = _
    rw [hI.num i hi]; exact htold i hi)
  have hl1 := HrS.upto_len (fun r => M.told (spreadL l) (diffI ack r.1)) now L L.length
  have hG : GotI W L (HrS.upto (fun r => M.told (spreadL l) (diffI ack r.1)) now L L.length).recs := ⟨hl1, f5⟩
  obtain ⟨z1, z2⟩ := lose_first W hI hG
  refine (sentHear_any L hL (by omega) ack hack now hn2 (fun r hr => ?_) (fun r hr => ?_) l hmf _ rfl _ rfl (by rw [z1]; exact Nat.zero_le _) C g c v w h hv).mono ?_
  · obtain ⟨j, hj, rfl⟩ := mem_getD L r hr
    have := hI.time j hj
    exact ⟨this.1, by omega, .inl (hI.out j hj)⟩
  · obtain ⟨j, hj, rfl⟩ := mem_getD L r hr
    rw [hI.num j hj]
    exact hs j
  · rintro e w' ⟨vG, vL, vX, rfl, ⟨pG, nG, e1⟩, ⟨pL, nL, e2⟩, ⟨pX, nX, e3⟩, h4, h5⟩
    rw [z2] at h4
    refine ⟨pG, nG, pL, nL, pX, nX, _, ?_, h4, h5, hG⟩
    rw [e1, e2, e3, f1, f2, f3, f4, z1]
    rfl
/-- Nothing new is heard of. -/
theorem hearNone {L : List Rec} (hL0 : 0 < L.length) (hL : L.length ≤ 200) (hs : ∀ i, i < L.length → (L.getD i (0, 0, 0)).1 < 18446744073709551616) (ack : Nat) (hack : ack < 18446744073709551616) (now : Int) (hn2 : now ≤ 4611686018427387904) (ht : ∀ i, i < L.length → 0 ≤ (L.getD i (0, 0, 0)).2.1 ∧ (L.getD i (0, 0, 0)).2.1 ≤ now ∧ ((L.getD i (0, 0, 0)).2.2 = 0 ∨ (L.getD i (0, 0, 0)).2.2 = 1 ∨ (L.getD i (0, 0, 0)).2.2 = 2))
    (l : List Cel) (hmf : mayF 0 l = true) (htold : ∀ i, i < L.length → M.told (spreadL l) (diffI ack (L.getD i (0, 0, 0)).1) = 3 ∨ (L.getD i (0, 0, 0)).2.2 = 1) (hz : (LsS.upto L L.length).ns = [] ∧ (LsS.upto L L.length).recs = L) (C g c : Nat) (v : Value) (w : World) (h : RecsAt L C g c w) (hv : C2At w v l) :
    Calls Tryz.prog 21 #[.pointer (some ⟨C, 0, none⟩), .int .u64 ack, v, .int .i64 now] w fun e w' => ∃ pG nG pL nL pX nX, e = .returned (.agg #[.slice pG 0 nG, .slice pL 0 nL, .slice pX 0 nX, .int .i64 0, .int .i64 (-1)]) ∧ RecsAt L C g c w' ∧ Kept [g] w w' := by
  have f := hear_nothing (fun r => M.told (spreadL l) (diffI ack r.1)) now L htold
  refine (sentHear_any L hL hL0 ack hack now hn2 (fun r hr => ?_) (fun r hr => ?_) l hmf _ f (LsS.upto L L.length) rfl (by rw [hz.1]; exact Nat.zero_le _) C g c v w h hv).mono ?_
  · obtain ⟨j, hj, rfl⟩ := mem_getD L r hr
    exact ht j hj
  · obtain ⟨j, hj, rfl⟩ := mem_getD L r hr
    exact hs j hj
  · rintro e w' ⟨vG, vL, vX, rfl, ⟨pG, nG, e1⟩, ⟨pL, nL, e2⟩, ⟨pX, nX, e3⟩, h4, h5⟩
    rw [hz.2] at h4
    refine ⟨pG, nG, pL, nL, pX, nX, ?_, h4, h5⟩
    rw [e1, e2, e3, hz.1]
    rfl
end Go.Proofs.YtkpginmdnlhfbaaGreatDoor

namespace Go.Proofs.YtkpginmdnlhfbaaGreatDoor
open Go.ChangeShapes Go.WideShapes Go.ChangeAt Go.RowKit
set_option linter.unusedVariables false
set_option linter.unusedSimpArgs false

/-- Cells, however many. -/
structure C2Wd (w : World) (v : Value) (l : List Cel) : Prop where
  at_ : ∃ p cap, v = .slice p l.length cap ∧ l.length ≤ cap ∧ cap ≤ 9223372036854775807 ∧ ∀ i, i < l.length → ∃ b o, p = some ⟨b, o, none⟩ ∧ b < w.heap.size ∧ w.cell? ⟨b, o + i * 2, none⟩ = some (.int .i64 (l.getD i (0, 0)).1) ∧ w.cell? ⟨b, o + i * 2 + 1, none⟩ = some (.int .i64 (l.getD i (0, 0)).2)
  small : ∀ i, -9223372036854775808 ≤ (l.getD i (0, 0)).2 ∧ (l.getD i (0, 0)).2 ≤ 9223372036854775807
theorem C2Wd.below {w w' : World} {v : Value} {l : List Cel} (h : C2Wd w v l) (hb : Below w.heap.size w w') : C2Wd w' v l := by
  obtain ⟨p, cap, hv, h1, h2, hc⟩ := h.at_
  refine ⟨⟨p, cap, hv, h1, h2, fun i hi => ?_⟩, h.small⟩
  obtain ⟨b, o, hp, hlt, c1, c2⟩ := hc i hi
  exact ⟨b, o, hp, Nat.lt_of_lt_of_le hlt hb.size, (hb.cell (p := ⟨b, o + i * 2, none⟩) hlt).trans c1, (hb.cell (p := ⟨b, o + i * 2 + 1, none⟩) hlt).trans c2⟩
theorem mayF_cells : ∀ (l : List Cel) (n : Int), 0 ≤ n → n ≤ 1000 → mayF n l = true → n + (l.length : Int) ≤ 1000 := by
  intro l
  induction l with
  | nil => intro n _ h1 _; simp; exact h1
  | cons c l ih =>
    intro n h0 h1 h
    unfold mayF at h
    simp only [Bool.and_eq_true, decide_eq_true_eq] at h
    obtain ⟨h2, h3, h4⟩ := h
    unfold celB at h2
    simp only [Bool.and_eq_true, stB, decide_eq_true_eq] at h2
    have := ih (n + c.2) (by omega) h3 h4
    rw [List.length_cons]
    omega
theorem C2Wd.at {w : World} {v : Value} {l : List Cel} (h : C2Wd w v l) (hm : mayF 0 l = true) : C2At w v l :=
  ⟨h.at_, by have := mayF_cells l 0 (by decide) (by decide) hm; omega, h.small⟩
set_option maxHeartbeats 4000000 in
set_option maxRecDepth 100000 in
theorem vecMay_wide (v : Value) (l : List Cel) (w : World) (hv : C2Wd w v l) :
    Calls Tryz.prog 63 #[v] w fun e w' => e = .returned (.bool (mayF 0 l)) ∧ Below w.heap.size w w' := by
  obtain ⟨p, cap, rfl, hlc, hcm, hc⟩ := hv.at_
  have HC := Lib.hid hc
  have hlen : l.length ≤ 9223372036854775807 := Nat.le_trans hlc hcm
  clear hlc hcm
  have HSM := Lib.hid hv.small
  obtain ⟨N, hN⟩ : ∃ N, l.length = N := ⟨_, rfl⟩
  have HN := Lib.hid hN
  rw [hN] at HC hlen ⊢
  clear hc hv hN
  go_enter Tryz.func63, Tryz.ntmps63
  go_wp2
  go_loopw [3, 5, 8] (fun a _ i wr => ∃ (k : Nat) (n : Int), i = .int .i64 (k : Int) ∧ a = .int .i64 (1000 - n) ∧ 0 ≤ n ∧ n ≤ 1000 ∧ k ≤ N ∧ Hid (mayF 0 l = mayF n (l.drop k)) ∧ Hid (Below w.heap.size w wr)) (fun _ _ i _ => N - (intOf i).toNat)
  case atStart => exact ⟨0, 0, rfl, rfl, by omega, by omega, by omega, Lib.hid rfl, Lib.hid (Below.refl _ _)⟩
  case round =>
    obtain ⟨k, n, rfl, rfl, hn0, hn1, hk, hmf, hbr⟩ := hrel
    by_cases hkn : k < N
    · obtain ⟨b, o, rfl, hlt, c0, c1⟩ := HC.out k hkn
      rw [← hbr.out.cell (p := ⟨b, o + k * 2, none⟩) hlt] at c0
      rw [← hbr.out.cell (p := ⟨b, o + k * 2 + 1, none⟩) hlt] at c1
      have HAT := Lib.hid (mayF_at n l k (by rw [HN.out]; exact hkn))
      have hsm := HSM.out k
      generalize l.getD k (0, 0) = c at *
      obtain ⟨s, r⟩ := c
      simp only at c0 c1 hsm HAT
      have HCL := Lib.hid (fun W => isCell_any (s, r) W)
      simp only at HCL
      clear hlt
      go_upto_region 5 with (refine store_c2 rfl _ _ rfl _ (0, 0) (s, r) rfl rfl (heap_alloc_new wr _) ?_; intro W2 hc2 hg2)
      have hb2 : Below wr.heap.size wr W2 := (bel_alloc wr _).grown hg2 (by simp) (fun j hj => by cases hj; exact Nat.le_refl _)
      obtain ⟨C, hC⟩ : ∃ C, C = wr.heap.size := ⟨_, rfl⟩
      rw [← hC] at hc2 ⊢
      obtain ⟨x0, x1⟩ := hc2.cells
      simp only at x0 x1
      have HC2 := Lib.hid hc2
      have HB2 : Hid (Below w.heap.size w W2) := Lib.hid (bel_trans hbr.out hb2)
      clear hb2 hg2 hc2 hC c0 c1
      cases hcb : celB (s, r) with
      | false =>
        rw [hcb] at HCL
        have HF : Hid (mayF 0 l = false) := Lib.hid (by rw [hmf.out, HAT.out, hcb]; rfl)
        clear hcb
        go_wp2_with (go_at_call 99; (with_reducible refine (HCL.out _).mono ?_); rintro e W3 ⟨rfl, hb3⟩)
        go_ret
        exact ⟨by rw [HF.out]; rfl, bel_trans HB2.out hb3⟩
      | true =>
        obtain ⟨_, hr1, hr2⟩ := celB_run hcb
        simp only at hr1 hr2
        rw [hcb] at HCL
        by_cases hle : n + r ≤ 1000
        · have hd : decide ((1000 : Int) - n < r) = false := decide_eq_false (by omega)
          have HF : Hid (mayF 0 l = mayF (n + r) (l.drop (k + 1))) := Lib.hid (by rw [hmf.out, HAT.out, hcb, decide_eq_true hle]; rfl)
          clear hcb
          go_upto_region 7 with (go_at_call 99; (with_reducible refine (HCL.out _).mono ?_); rintro e W3 ⟨rfl, hb3⟩; have hx3 := (HC2.out.below hb3).cells; have y1 := hx3.2; simp only at y1; clear hx3)
          have HB3 : Hid (Below w.heap.size w W3) := Lib.hid (bel_trans HB2.out hb3)
          clear hb3 x0 x1
          go_wp2
          refine ⟨⟨k + 1, n + r, by go_num, by go_num, by omega, by omega, by omega, HF, HB3⟩, ?_⟩
          simp [intOf]; omega
        · have hd : decide ((1000 : Int) - n < r) = true := decide_eq_true (by omega)
          have HF : Hid (mayF 0 l = false) := Lib.hid (by rw [hmf.out, HAT.out, hcb, decide_eq_false hle]; rfl)
          clear hcb
          go_wp2_with (go_at_call 99; (with_reducible refine (HCL.out _).mono ?_); rintro e W3 ⟨rfl, hb3⟩; have hx3 := (HC2.out.below hb3).cells; have y1 := hx3.2; simp only at y1; clear hx3)
          go_ret
          exact ⟨by rw [HF.out]; rfl, bel_trans HB2.out hb3⟩
    · obtain rfl : k = N := by omega
      have hdr : l.drop k = [] := List.drop_eq_nil_of_le (by rw [HN.out]; exact Nat.le_refl _)
      have HF : Hid (mayF 0 l = true) := Lib.hid (by rw [hmf.out, hdr]; rfl)
      clear hdr
      go_wp2
      go_ret
      exact ⟨by rw [HF.out]; rfl, hbr.out⟩
theorem sentHear_bad (C : Nat) (ack : Nat) (now : Int) (l : List Cel) (hmf : mayF 0 l = false) (v : Value) (w : World) (hv : C2Wd w v l) :
    Calls Tryz.prog 21 #[.pointer (some ⟨C, 0, none⟩), .int .u64 ack, v, .int .i64 now] w fun e w' => e = .returned (.agg #[.slice none 0 0, .slice none 0 0, .slice none 0 0, .int .i64 0, .int .i64 (-1)]) ∧ Below w.heap.size w w' := by
  obtain ⟨p, cap, hpv, _⟩ := hv.at_
  have HM0 := Lib.hid (fun W (hb : Below w.heap.size w W) => vecMay_wide v l W (hv.below hb))
  rw [hmf] at HM0
  have hb : Below w.heap.size w ((w.alloc (.cells #[.slice none 0 0, .slice none 0 0, .slice none 0 0, .int .i64 0, .int .i64 0] 41)).alloc (.cells #[.slice none 0 0, .slice none 0 0, .slice none 0 0, .int .i64 0, .int .i64 (-1)] 41)) := bel_trans (bel_alloc _ _) (bel_alloc _ _)
  have HM : Hid (Calls Tryz.prog 63 #[v] ((w.alloc (.cells #[.slice none 0 0, .slice none 0 0, .slice none 0 0, .int .i64 0, .int .i64 0] 41)).alloc (.cells #[.slice none 0 0, .slice none 0 0, .slice none 0 0, .int .i64 0, .int .i64 (-1)] 41)) fun e w' => e = .returned (.bool false) ∧ Below ((w.alloc (.cells #[.slice none 0 0, .slice none 0 0, .slice none 0 0, .int .i64 0, .int .i64 0] 41)).alloc (.cells #[.slice none 0 0, .slice none 0 0, .slice none 0 0, .int .i64 0, .int .i64 (-1)] 41)).heap.size ((w.alloc (.cells #[.slice none 0 0, .slice none 0 0, .slice none 0 0, .int .i64 0, .int .i64 0] 41)).alloc (.cells #[.slice none 0 0, .slice none 0 0, .slice none 0 0, .int .i64 0, .int .i64 (-1)] 41)) w') := Lib.hid (HM0.out _ hb)
  rw [hpv] at HM ⊢
  clear HM0 hpv hv hmf
  generalize l.length = LN at *
  go_enter Tryz.func21, Tryz.ntmps21
  go_upto_region 2 with fail
  have k11 : BlkIs #[.slice none 0 0, .slice none 0 0, .slice none 0 0, .int .i64 0, .int .i64 0] 41 w.heap.size ((w.alloc (.cells #[.slice none 0 0, .slice none 0 0, .slice none 0 0, .int .i64 0, .int .i64 0] 41)).alloc (.cells #[.slice none 0 0, .slice none 0 0, .slice none 0 0, .int .i64 0, .int .i64 (-1)] 41)) := (BlkIs.new _ _ _).alloc _
  have k10 : BlkIs #[.slice none 0 0, .slice none 0 0, .slice none 0 0, .int .i64 0, .int .i64 (-1)] 41 (w.heap.size + 1) ((w.alloc (.cells #[.slice none 0 0, .slice none 0 0, .slice none 0 0, .int .i64 0, .int .i64 0] 41)).alloc (.cells #[.slice none 0 0, .slice none 0 0, .slice none 0 0, .int .i64 0, .int .i64 (-1)] 41)) := by
    have := BlkIs.new #[.slice none 0 0, .slice none 0 0, .slice none 0 0, .int .i64 0, .int .i64 (-1)] 41 (w.alloc (.cells #[.slice none 0 0, .slice none 0 0, .slice none 0 0, .int .i64 0, .int .i64 0] 41))
    rw [World.size_alloc] at this
    exact this
  generalize (w.alloc (.cells #[.slice none 0 0, .slice none 0 0, .slice none 0 0, .int .i64 0, .int .i64 0] 41)).alloc (.cells #[.slice none 0 0, .slice none 0 0, .slice none 0 0, .int .i64 0, .int .i64 (-1)] 41) = W6 at *
  obtain ⟨A, hA⟩ : ∃ A, w.heap.size = A := ⟨_, rfl⟩
  rw [hA] at k11 k10 hb ⊢
  have K10 := Lib.hid k10
  have K11a := Lib.hid k11
  have HAe := Lib.hid hA
  have HB6 := Lib.hid hb
  clear k10 k11 hA hb
  go_upto_region 3 with (go_at_call 63; (with_reducible refine HM.out.mono ?_); rintro e W7 ⟨rfl, hb7⟩)
  have k10 := K10.out.below hb7
  have k11 := K11a.out.below hb7
  have y0 : W7.cell? ⟨A + 1, 0, none⟩ = some (.slice none 0 0) := BlkIs.cell k10 0
  have y1 : W7.cell? ⟨A + 1, 1, none⟩ = some (.slice none 0 0) := BlkIs.cell k10 1
  have y2 : W7.cell? ⟨A + 1, 2, none⟩ = some (.slice none 0 0) := BlkIs.cell k10 2
  have y3 : W7.cell? ⟨A + 1, 3, none⟩ = some (.int .i64 0) := BlkIs.cell k10 3
  have y4 : W7.cell? ⟨A + 1, 4, none⟩ = some (.int .i64 (-1)) := BlkIs.cell k10 4
  have v0 : W7.cell? ⟨A, 0, none⟩ = some (.slice none 0 0) := BlkIs.cell k11 0
  have v1 : W7.cell? ⟨A, 1, none⟩ = some (.slice none 0 0) := BlkIs.cell k11 1
  have v2 : W7.cell? ⟨A, 2, none⟩ = some (.slice none 0 0) := BlkIs.cell k11 2
  have v3 : W7.cell? ⟨A, 3, none⟩ = some (.int .i64 0) := BlkIs.cell k11 3
  have v4 : W7.cell? ⟨A, 4, none⟩ = some (.int .i64 0) := BlkIs.cell k11 4
  have vf := BlkIs.free k11
  have K11 := Lib.hid k11
  have HB : Hid (Below A w W7) := Lib.hid (HB6.out.trans (hb7.mono (by have := K10.out.lt; omega)))
  clear k10 k11 hb7
  go_wp2
  have kb := ((((K11.out.set 0 (.slice none 0 0)).set 1 (.slice none 0 0)).set 2 (.slice none 0 0)).set 3 (.int .i64 0)).set 4 (.int .i64 (-1))
  refine bodyPost_ret (results_cell_row Tryz.results21 _ _ A 41 (heardCells (.slice none 0 0) 0 (-1)) (0, 0) _ rfl kb Tryz.underlying41 rfl (by kernel_rfl)) rfl ⟨rfl, ?_⟩
  rw [HAe.out]
  exact ((((HB.out.setCell (p := ⟨A, 0, none⟩) (Nat.le_refl _) _).setCell (p := ⟨A, 1, none⟩) (Nat.le_refl _) _).setCell (p := ⟨A, 2, none⟩) (Nat.le_refl _) _).setCell (p := ⟨A, 3, none⟩) (Nat.le_refl _) _).setCell (p := ⟨A, 4, none⟩) (Nat.le_refl _) _
end Go.Proofs.YtkpginmdnlhfbaaGreatDoor
