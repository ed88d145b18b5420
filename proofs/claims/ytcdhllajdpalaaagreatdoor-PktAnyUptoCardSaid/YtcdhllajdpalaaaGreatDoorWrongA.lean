/-
  The law's 'wrong': what is wrong with bytes, by the document. (Its region's steps are printed by tools/genwrong.py.)
-/
import Derived.Test.YtcdhllajdpalaaaGreatDoorRefGet3
import Derived.Test.YtcdhllajdpalaaaGreatDoorRefOpM
import Derived.Test.YtcdhllajdpalaaaGreatDoorRegJ
namespace Go.Proofs.YtcdhllajdpalaaaGreatDoor
open Go.ChangeShapes Go.WideShapes Go.ChangeAt Go.RowKit
set_option linter.unusedVariables false
set_option linter.unusedSimpArgs false

namespace Rg
section
variable {P : Program} {ops : Array Oper} {Q : Exit → Act → World → Prop}

/-- What the walk asks of a region's text: an operation waits only for earlier ones, writes a slot of its own, has no guard. -/
def okAtG (D : List Nat) (size i : Nat) (o : Oper) : Bool :=
  o.after.all (fun e => !Region.binds .any e || decide (e.on < i)) && (o.dst == some (D.getD i 0) || o.dst == none) && o.guard.isNone && decide (D.getD i 0 < size)
def okAllG (D : List Nat) (size : Nat) : Nat → List Oper → Bool
  | _, [] => true
  | i, o :: os => okAtG D size i o && okAllG D size (i + 1) os
def okG (D : List Nat) (size : Nat) (ops : Array Oper) : Bool := okAllG D size 0 ops.toList && decide (D.length = ops.size) && decide D.Nodup
theorem okAllG_at {D : List Nat} {size : Nat} : ∀ (os : List Oper) (k : Nat), okAllG D size k os = true → ∀ i o, os[i]? = some o → okAtG D size (k + i) o = true
  | [], _, _, i, o, h => by simp at h
  | x :: os, k, hk, i, o, h => by
    have h2 : (okAtG D size k x && okAllG D size (k + 1) os) = true := hk
    rw [Bool.and_eq_true] at h2
    cases i with
    | zero => simp at h; subst h; exact h2.1
    | succ i =>
      have := okAllG_at os (k + 1) h2.2 i o (by simpa using h)
      rwa [show k + 1 + i = k + (i + 1) by omega] at this

theorem ready_memG {listed : Array Bool} {i : Nat} {o : Oper} (hi : ops[i]? = some o) (h1 : listed.getD i true = false) (h2 : ∀ e ∈ o.after, Region.binds .any e = true → listed.getD e.on false = true) : i ∈ Region.ready .any ops listed := by
  unfold Region.ready
  rw [List.mem_filter, List.mem_range]
  refine ⟨(Array.getElem?_eq_some_iff.1 hi).1, ?_⟩
  rw [hi, h1]
  simp only [Option.map_some, Option.getD_some, Bool.not_false, Bool.true_and]
  exact Array.all_eq_true'.2 (fun e he => by
    cases hb : Region.binds .any e with
    | true => rw [h2 e he hb]; simp
    | false => simp)
theorem any_invG {D : List Nat} {K : Nat → Value → World → Prop} {S : World → World → Prop} {a0 : Act} {w0 : World}
    (hok : okG D a0.tmps.size ops = true) (htr : ∀ x y z, S x y → S y z → S x z) (hK : ∀ i v x y, K i v x → S x y → K i v y)
    (steps : Steps P Q D K S a0 w0 0 ops.toList)
    (fin : ∀ a w, a.tmps.size = a0.tmps.size → a.defers = a0.defers → (∀ j, j ∉ D → a.eval (.tmp j) = a0.eval (.tmp j)) → S w0 w → (∀ i, i < ops.size → K i (a.eval (.tmp (D.getD i 0))) w) → Q .normal a w) :
    ∀ (fuel : Nat) (listed : Array Bool) (a : Act) (w : World), listed.size = ops.size → todo listed ≤ fuel → Inv D K S a0 w0 ops.size listed a w → wpAny P .any ops Q fuel listed a w := by
  unfold okG at hok
  rw [Bool.and_eq_true, Bool.and_eq_true, decide_eq_true_eq, decide_eq_true_eq] at hok
  obtain ⟨⟨hok, hlen⟩, hnd⟩ := hok
  have hat : ∀ i o, ops[i]? = some o → (∀ e ∈ o.after, Region.binds .any e = true → e.on < i) ∧ (o.dst = some (D.getD i 0) ∨ o.dst = none) ∧ o.guard = none ∧ D.getD i 0 < a0.tmps.size := fun i o hi => by
    have h := okAllG_at ops.toList 0 hok i o (by rw [← hi]; simp)
    rw [Nat.zero_add] at h
    unfold okAtG at h
    simp only [Bool.and_eq_true, Bool.or_eq_true, decide_eq_true_eq, beq_iff_eq, Option.isNone_iff_eq_none] at h
    obtain ⟨⟨⟨h1, h2⟩, h3⟩, h4⟩ := h
    exact ⟨fun e he hb => by have := Array.all_eq_true'.1 h1 e he; rw [hb] at this; simpa using this, h2, h3, h4⟩
  have hinj : ∀ i j, i < ops.size → j < ops.size → i ≠ j → D.getD i 0 ≠ D.getD j 0 := fun i j hi hj hne he => by
    rw [List.getD_eq_getElem?_getD, List.getD_eq_getElem?_getD, List.getElem?_eq_getElem (by omega), List.getElem?_eq_getElem (by omega)] at he
    have he2 : D[i]'(by omega) = D[j]'(by omega) := he
    have hp := List.pairwise_iff_getElem.1 hnd
    rcases Nat.lt_or_gt_of_ne hne with h | h
    · exact hp i j (by omega) (by omega) h he2
    · exact hp j i (by omega) (by omega) h he2.symm
  -- where nothing is ready all is done
  have hall : ∀ listed : Array Bool, listed.size = ops.size → Region.ready .any ops listed = [] → ∀ i, i < ops.size → listed.getD i false = true := fun listed hs hr i => by
    induction i using Nat.strongRecOn with
    | ind i ih =>
      intro hi
      cases hg : listed.getD i true with
      | true =>
        rw [Array.getD_eq_getD_getElem?, Array.getElem?_eq_getElem (by omega)] at hg ⊢
        exact hg
      | false =>
        have hio : ops[i]? = some ops[i] := Array.getElem?_eq_getElem hi
        have hm : i ∈ Region.ready .any ops listed := ready_memG hio hg (fun e he hb => ih e.on ((hat i _ hio).1 e he hb) (by have := (hat i _ hio).1 e he hb; omega))
        rw [hr] at hm; cases hm
  intro fuel
  induction fuel with
  | zero =>
    intro listed a w hs ht inv
    have hz := todo_zero listed (by omega)
    have hr : Region.ready .any ops listed = [] := by
      cases hrr : Region.ready .any ops listed with
      | nil => rfl
      | cons i rs =>
        have := (mem_ready (md := .any) (ops := ops) (listed := listed) (i := i) (by rw [hrr]; simp)).2.1
        rw [hz i] at this; cases this
    exact ⟨hr, fin a w inv.size inv.defers inv.slot inv.s (fun i hi => inv.k i hi (hall listed hs hr i hi))⟩
  | succ fuel ih =>
    intro listed a w hs ht inv
    refine ⟨fun hr => fin a w inv.size inv.defers inv.slot inv.s (fun i hi => inv.k i hi (hall listed hs hr i hi)), fun i hi => ?_⟩
    obtain ⟨h1, h2, h3⟩ := mem_ready hi
    have hio : ops[i]? = some ops[i] := Array.getElem?_eq_getElem h1
    obtain ⟨g1, g2, g3, g4⟩ := hat i _ hio
    have st := Steps.at ops.toList 0 steps i ops[i] (by rw [← hio]; simp)
    rw [Nat.zero_add] at st
    unfold wpOp
    rw [hio]
    simp only
    rw [if_pos (by rw [Fr.open_ g3])]
    refine .inl (st a w inv.slot inv.s (fun e he hb => inv.k e.on (by have := g1 e he hb; omega) (h3 _ hio e he hb)) _ (fun v w' hS hv => ?_))
    refine ih _ _ _ (by simpa using hs) (by have := todo_set listed i h2; omega) ?_
    rcases g2 with g2 | g2
    · rw [g2]
      refine ⟨by simp [Act.put, inv.size], by simp only [Act.put]; exact inv.defers, fun j hj => ?_, htr _ _ _ inv.s hS, fun j hj hl => ?_⟩
      · rw [Fr.put_other v (fun e => hj (by
          rw [e, List.getD_eq_getElem?_getD, List.getElem?_eq_getElem (by omega)]; exact List.getElem_mem _))]
        exact inv.slot j hj
      · rcases getD_set hl with rfl | hl
        · rw [Fr.put_same v (by rw [inv.size]; exact g4)]
          exact hv v (fun _ => rfl)
        · by_cases e : j = i
          · subst e
            rw [Fr.put_same v (by rw [inv.size]; exact g4)]
            exact hv v (fun _ => rfl)
          · rw [Fr.put_other v (hinj j i hj h1 e)]
            exact hK _ _ _ _ (inv.k j hj hl) hS
    · rw [g2]
      refine ⟨inv.size, inv.defers, inv.slot, htr _ _ _ inv.s hS, fun j hj hl => ?_⟩
      rcases getD_set hl with rfl | hl
      · exact hv _ (fun hd => by rw [g2] at hd; cases hd)
      · by_cases e : j = i
        · subst e; exact hv _ (fun hd => by rw [g2] at hd; cases hd)
        · exact hK _ _ _ _ (inv.k j hj hl) hS

/-- A region that draws its order. -/
theorem regionG {id : Nat} {a0 : Act} {w : World} (hm : P.follows .mixedOrders = true) (D : List Nat) (K : Nat → Value → World → Prop) (S : World → World → Prop)
    (hok : okG D a0.tmps.size ops = true) (hrf : S w.drew w.drew) (htr : ∀ x y z, S x y → S y z → S x z) (hK : ∀ i v x y, K i v x → S x y → K i v y)
    (steps : Steps P Q D K S a0 w.drew 0 ops.toList)
    (fin : ∀ a w', a.tmps.size = a0.tmps.size → a.defers = a0.defers → (∀ j, j ∉ D → a.eval (.tmp j) = a0.eval (.tmp j)) → S w.drew w' → (∀ i, i < ops.size → K i (a.eval (.tmp (D.getD i 0))) w') → Q .normal a w') :
    (Code.region id ops true).wp P Q a0 w := by
  refine wp_region_any hm ?_
  refine any_invG hok htr hK steps fin ops.size _ a0 w.drew (by simp) ?_ ⟨rfl, rfl, fun _ _ => rfl, hrf, fun i hi hl => ?_⟩
  · unfold todo; simp
  · simp [Array.getD_eq_getD_getElem?, Array.getElem?_replicate, hi] at hl

end
end Rg
/-- A region that draws its order; behind it the slots of D hold what K says. -/
theorem Rg.regionR {P : Program} {ops : Array Oper} {Q : Exit → Act → World → Prop} {id : Nat} {a0 : Act} {w : World} (hm : P.follows .mixedOrders = true) (D : List Nat) (K : Nat → Value → World → Prop) (S : World → World → Prop)
    (hok : Rg.okG D a0.tmps.size ops = true) (hrf : S w.drew w.drew) (htr : ∀ x y z, S x y → S y z → S x z) (hK : ∀ i v x y, K i v x → S x y → K i v y)
    (steps : Rg.Steps P Q D K S a0 w.drew 0 ops.toList)
    (fin : ∀ w' f, S w.drew w' → (∀ i, i < ops.size → K i (f (D.getD i 0)) w') → Q .normal (Rg.puts D f a0) w') :
    (Code.region id ops true).wp P Q a0 w :=
  Rg.regionG hm D K S hok hrf htr hK steps (fun a w' h1 h2 h3 h4 h5 => by
    rw [Rg.puts_eq h1 h2 h3]
    exact fin w' _ h4 (fun i hi => h5 i hi))
theorem ex_fieldX (ρ : Operand → Value) (w : World) (o : Oper) (x : Operand) (C i : Nat) (hi : i < 13) (ho : o.op = .fieldAddr 26 x i) (hp : ρ x = .pointer (some ⟨C, 0, none⟩)) :
    (execOp ρ o).run Tryz.prog w = .ok (.value (.pointer (some ⟨C, i, none⟩))) w := by
  have hc : i = 0 ∨ i = 1 ∨ i = 2 ∨ i = 3 ∨ i = 4 ∨ i = 5 ∨ i = 6 ∨ i = 7 ∨ i = 8 ∨ i = 9 ∨ i = 10 ∨ i = 11 ∨ i = 12 := by omega
  unfold execOp
  rw [ho]
  simp only [hp]
  rcases hc with rfl | rfl | rfl | rfl | rfl | rfl | rfl | rfl | rfl | rfl | rfl | rfl | rfl
  all_goals simp [go_sem]
theorem ex_refSize (ρ : Operand → Value) (W : World) (o : Oper) (x y : Operand) (v u : Value) (ats : Array TypeId) (ho : o.op = .call { callee := .value (.func 12), args := #[x, y], argTypes := ats }) (hx : ρ x = v) (hy : ρ y = u) (hf : ρ (.func 12) = .func (.func 12) #[] #[]) :
    (execOp ρ o).run Tryz.prog W = .ok (.enter 12 #[v, u]) W := by
  unfold execOp
  rw [ho]
  simp [go_sem, resolve, hx, hy, hf]
theorem ex_getopts (ρ : Operand → Value) (w : World) (o : Oper) (x : Operand) (v : Value) (ats : Array TypeId) (ho : o.op = .call { callee := .value (.func 21), args := #[x], argTypes := ats }) (hx : ρ x = v) (hfv : ρ (.func 21) = .func (.func 21) #[] #[]) :
    (execOp ρ o).run Tryz.prog w = .ok (.enter 21 #[v]) w := by
  unfold execOp
  rw [ho]
  simp [go_sem, resolve, hx, hfv]
theorem ex_mul4 (ρ : Operand → Value) (W : World) (o : Oper) (x : Operand) (y : Int) (n : Nat) (h : 4 * y = (n : Int)) (hb : n < 9223372036854775808) (ho : o.op = .binOp .mul 3 (.const (.int .i64 4)) x 3) (hx : ρ x = .int .i64 y) (h4 : ρ (.const (.int .i64 4)) = .int .i64 4) :
    (execOp ρ o).run Tryz.prog W = .ok (.value (.int .i64 (n : Int))) W := by
  have hw := IntWalk.i64_in (n : Int) (by omega)
  unfold execOp
  simp [go_sem, ho, hx, h4, hw, h, eqGuard]
theorem ex_sliceT (ρ : Operand → Value) (w : World) (o : Oper) (x y z : Operand) (lo hi : Int) (s b : ByteArray) (ho : o.op = .slice 9 x (some y) (some z) none) (hx : ρ x = .string s) (h1 : ρ y = .int .i64 lo) (h2 : ρ z = .int .i64 hi)
    (hs : ∀ W, (Instr.slice 9 (.string s) (some (.int .i64 lo)) (some (.int .i64 hi)) none).run Tryz.prog W = .ok (.string b) W) : (execOp ρ o).run Tryz.prog w = .ok (.value (.string b)) w := by
  unfold execOp
  rw [ho]
  simp [hx, h1, h2, Instr.sliceAt, run_underlying Tryz.underlying9, hs]
theorem ex_extract0 (ρ : Operand → Value) (w : World) (o : Oper) (x : Operand) (u v : Value) (ho : o.op = .extract x 0) (hx : ρ x = .tuple #[u, v]) : (execOp ρ o).run Tryz.prog w = .ok (.value u) w := by
  unfold execOp
  simp [go_sem, ho, hx]
theorem ex_extract1 (ρ : Operand → Value) (w : World) (o : Oper) (x : Operand) (u v : Value) (ho : o.op = .extract x 1) (hx : ρ x = .tuple #[u, v]) : (execOp ρ o).run Tryz.prog w = .ok (.value v) w := by
  unfold execOp
  simp [go_sem, ho, hx]
/-- What each operation of the region leaves that reads the options of bytes: b: whether the slice is kept. -/
def woK (s : ByteArray) (C : Nat) (g : Hd) (S OF : Nat) (F : ByteArray) (E : Int) (R : Value → World → Prop) (b : Bool) : Nat → Value → World → Prop
  | 0, v, _ => v = .string s
  | 1, v, _ => v = .pointer (some ⟨C, 6, none⟩)
  | 2, v, _ => v = .int .i64 g.type
  | 3, v, _ => v = .pointer (some ⟨C, 7, none⟩)
  | 4, v, _ => v = .bool g.x
  | 5, v, _ => v = .int .i64 S
  | 6, v, _ => v = .pointer (some ⟨C, 2, none⟩)
  | 7, v, _ => v = .int .i64 g.off
  | 8, v, _ => v = .int .i64 OF
  | 9, v, _ => v = .string F
  | 10, v, W => ∃ u, v = .tuple #[u, .int .i64 E] ∧ R u W
  | 11, v, W => ∃ u, v = .tuple #[u, .int .i64 E] ∧ R u W
  | 12, v, W => R v W
  | 13, v, _ => v = .int .i64 E
  | 14, v, W => match b with | true => R v W | false => v = .int .i64 E
  | _, v, _ => v = .int .i64 E
theorem woK_keep (s : ByteArray) (C : Nat) (g : Hd) (S OF : Nat) (F : ByteArray) (E : Int) (R : Value → World → Prop) (b : Bool) (hR : ∀ u x y, R u x → Below x.heap.size x y → R u y) : ∀ i v x y, woK s C g S OF F E R b i v x → Below x.heap.size x y → woK s C g S OF F E R b i v y
  | 0, _, _, _, h, _ => h
  | 1, _, _, _, h, _ => h
  | 2, _, _, _, h, _ => h
  | 3, _, _, _, h, _ => h
  | 4, _, _, _, h, _ => h
  | 5, _, _, _, h, _ => h
  | 6, _, _, _, h, _ => h
  | 7, _, _, _, h, _ => h
  | 8, _, _, _, h, _ => h
  | 9, _, _, _, h, _ => h
  | 10, _, _, _, ⟨u, e, h⟩, hb => ⟨u, e, hR _ _ _ h hb⟩
  | 11, _, _, _, ⟨u, e, h⟩, hb => ⟨u, e, hR _ _ _ h hb⟩
  | 12, _, _, _, h, hb => hR _ _ _ h hb
  | 13, _, _, _, h, _ => h
  | 14, _, _, _, h, hb => by
    cases b with
    | true => exact hR _ _ _ h hb
    | false => exact h
  | _ + 15, _, _, _, h, _ => h
/-- What is read of any bytes. -/
def gotHdW (l : List UInt8) : Hd := if faultN l = 0 then getHd l else Hd.zero
theorem refGet_uniW (l : List UInt8) (hl : l.length ≤ 1000000000) (w : World) :
    Calls Tryz.prog 14 #[.string (str l)] w fun e w' => e = .returned (.tuple #[(gotHdW l).val, .int .i64 (faultN l)]) ∧ Below w.heap.size w w' := by
  unfold gotHdW
  by_cases h12 : l.length < 12
  · have e1 : faultN l = 1 := by unfold faultN; rw [if_pos h12]
    rw [e1, if_neg (by decide)]
    exact refGet_short l h12 w
  · refine (refGet_long l (by omega) hl w).mono fun e w' ⟨h1, h2⟩ => ?_
    by_cases h : faultN l = 0
    · rw [if_pos h, h]; exact h2 h
    · rw [if_neg h]; exact h1 h
/-- How much is covered of bytes whose head is right. -/
theorem cov_cut {l : List UInt8} (hc : covB l.length (getOff l : Nat) (getHd l).cs = true) : ∃ k : Nat, k ≤ l.length ∧ covI l.length (getOff l : Nat) (getHd l).cs = (k : Int) ∧ (getCov l).toNat = k := by
  have hcl : getCov l = covI l.length (getOff l : Nat) (getHd l).cs := rfl
  rw [hcl]
  unfold covB at hc
  have hc2 := of_decide_eq_true hc
  unfold covI
  rw [if_neg hc2.1]
  by_cases h0 : (getHd l).cs = 0
  · rw [if_pos h0]; exact ⟨l.length, Nat.le_refl _, rfl, by omega⟩
  · rw [if_neg h0, if_neg (hc2.2.resolve_left h0)]
    have h5 := hc2.2.resolve_left h0
    exact ⟨((getOff l : Nat) + 4 * ((getHd l).cs - 1)).toNat, by omega, by omega, by omega⟩
theorem getErr_head (l : List UInt8) (h13 : ¬ 2500 < l.length) (hf : faultN l = 0) : getErr l = if covB l.length (getOff l : Nat) (getHd l).cs = false then 5 else if M.sum16 (l.take (getCov l).toNat) ≠ 0 then 6 else if getOs l = none then 7 else 0 := by
  unfold getErr; rw [if_neg h13, if_neg (by omega)]

set_option maxHeartbeats 4000000 in
set_option maxRecDepth 100000 in
theorem wrong_any (l : List UInt8) (hl : l.length ≤ 1000000) (w : World) :
    Calls Tryz.prog 19 #[.string (str l)] w fun e w' => e = .returned (.int .i64 (getErr l)) ∧ Below w.heap.size w w' := by
  obtain ⟨s, hs⟩ : ∃ s, str l = s := ⟨_, rfl⟩
  have hsz : s.size = l.length := by rw [← hs]; rfl
  have HG := Lib.hid (fun W => refGet_uniW l (by omega) W)
  by_cases h13 : 2500 < l.length
  · have HR : Hid (getErr l = 13) := Lib.hid (by unfold getErr; rw [if_pos h13])
    have hd := decide_eq_true (p := (2500 : Int) < (s.size : Int)) (by omega)
    rw [hs]
    clear hs hsz h13 HG
    go_enter Tryz.func19, Tryz.ntmps19
    go_wp2_with fail
    go_ret
    exact ⟨by rw [HR.out]; rfl, Below.refl _ _⟩
  have hd := decide_eq_false (p := (2500 : Int) < (s.size : Int)) (by omega)
  by_cases hf : faultN l = 0
  · obtain ⟨hl12, hz0, hzo, hol, ht9⟩ := fault_facts hf
    obtain ⟨g1, g2, g3, g4⟩ := getHd_off hl12
    have HE := Lib.hid (getErr_head l h13 hf)
    have hb4 := byteAt_lt l 4
    have hb5 : byteAt l 5 % 16 < 16 := Nat.mod_lt _ (by decide)
    have hoff4 : 4 * (getHd l).off = ((getOff l : Nat) : Int) := by rw [g1]; unfold getOff; omega
    have HCV : Hid (∀ W, Calls Tryz.prog 55 #[.int .i64 (s.size : Int), .int .i64 ((getOff l : Nat) : Int), .int .i64 (getHd l).cs] W fun e w' => e = .returned (.tuple #[.int .i64 (covI l.length (getOff l : Nat) (getHd l).cs), .bool (covB l.length (getOff l : Nat) (getHd l).cs)]) ∧ W = w') := Lib.hid (fun W => by
      have hh := refCovered_any (s.size : Int) ((getOff l : Nat) : Int) (getHd l).cs (by omega) (by omega) (by omega) (by omega) (by rw [g2]; omega) (by rw [g2]; omega) W
      rw [hsz] at hh ⊢
      exact hh)
    have HCI := Lib.hid (@cov_cut l)
    have hso : getSize l ≤ getOff l := by unfold getSize; rw [g3, g4]; exact hzo
    have HSLI : Hid (∀ W, (Instr.slice 9 (.string s) (some (.int .i64 ((getSize l : Nat) : Int))) (some (.int .i64 ((getOff l : Nat) : Int))) none).run Tryz.prog W = .ok (.string (str ((l.take (getOff l)).drop (getSize l)))) W) := Lib.hid (fun W => by rw [← hs]; exact slice2h l _ _ hso hol W)
    have HST := Lib.hid (fun (k : Nat) (hk : k ≤ l.length) (W : World) => slice_to l k hk W)
    rw [hs] at HST
    have HGO : Hid (∀ W, Calls Tryz.prog 21 #[.string (str ((l.take (getOff l)).drop (getSize l)))] W (GetOut W (getOs l))) := Lib.hid (fun W => refGetOpts_any _ (by rw [List.length_drop, List.length_take]; omega) W)
    have hgg : gotHdW l = getHd l := by unfold gotHdW; rw [if_pos hf]
    rw [hgg, hf, hs] at HG
    have HSM := Lib.hid (fun (k : Nat) (W : World) => refSum_any (str (l.take k)) (by rw [str_size, List.length_take]; omega) W)
    have HSZ : Hid (∀ W, Calls Tryz.prog 12 #[.int .i64 (getHd l).type, .bool (getHd l).x] W fun e w' => e = .returned (.int .i64 (getSize l : Nat)) ∧ W = w') := Lib.hid (fun W => refSize_any (getHd l).type (getHd l).x W)
    have hyo : 0 ≤ (getHd l).off ∧ (getHd l).off ≤ 255 := by rw [g1]; omega
    rw [hs]
    generalize getHd l = g at *
    obtain ⟨c, hc⟩ : ∃ c, covB l.length (getOff l : Nat) g.cs = c := ⟨_, rfl⟩
    obtain ⟨n, hn⟩ : ∃ n, covI l.length (getOff l : Nat) g.cs = n := ⟨_, rfl⟩
    rw [hc, hn] at HCV HCI
    rw [hc] at HE
    obtain ⟨F, hF⟩ : ∃ F, str ((l.take (getOff l)).drop (getSize l)) = F := ⟨_, rfl⟩
    rw [hF] at HSLI HGO
    have hofb : getOff l ≤ 2500 := by omega
    generalize getOff l = OF at *
    generalize getSize l = S at *
    clear hs hsz h13 hf hz0 hzo ht9 g1 g2 g3 g4 hl12 hgg hc hn hF hol hso hb4 hb5
    go_enter Tryz.func19, Tryz.ntmps19
    go_upto_region 6 with (first
      | (go_at_call 14; refine (HG.out _).mono ?_; rintro e W1 ⟨rfl, hb1⟩)
      | (refine store_blk rfl _ _ rfl _ Hd.zero g rfl rfl (hd_new _) ?_; intro W2 hc2 hg2))
    obtain ⟨C, hC⟩ : ∃ c, c = W1.heap.size := ⟨_, rfl⟩
    have HBW : Hid (Below w.heap.size w W2) := Lib.hid ((bel_trans hb1 (bel_alloc _ _)).grown hg2 (bel_trans hb1 (bel_alloc _ _)).size (fun k hk => by cases hk; exact hb1.size))
    rw [← hC] at hc2 ⊢
    have HHB := Lib.hid hc2
    have c2 := hc2.cell 2 (.int .i64 g.off) rfl
    have c4 := hc2.cell 4 (.int .i64 g.cs) rfl
    clear hb1 hg2 hc2 hC HG
    by_cases hcc : c = true
    · subst hcc
      obtain ⟨k, hk, hci, hct⟩ := HCI.out rfl
      rw [hci] at HCV
      rw [if_neg (by decide), hct] at HE
      have hsl := HST.out k hk
      obtain ⟨E1, hE1⟩ : ∃ E, str (l.take k) = E := ⟨_, rfl⟩
      have HSK := Lib.hid (HSM.out k)
      have hdat : (str (l.take k)).data.toList = l.take k := str_list _
      rw [hdat] at HSK
      rw [hE1] at hsl HSK
      clear hE1 hdat HST HSM HCI hk hci hct
      obtain ⟨q, hq⟩ : ∃ q, M.sum16 (l.take k) = q := ⟨_, rfl⟩
      rw [hq] at HSK HE
      clear hq
      by_cases h6 : q = 0
      · subst h6
        rw [if_neg (by decide)] at HE
        go_upto_region 11 with (first
          | (go_at_call 55; (with_reducible refine (HCV.out _).mono ?_); rintro e W8 ⟨rfl, rfl⟩)
          | (go_at_call 56; (with_reducible refine (HSK.out _).mono ?_); rintro e W8 ⟨rfl, rfl⟩))
        clear c2 c4 hsl HCV HSK
        obtain ⟨E, hE⟩ : ∃ E : Int, ((getErr l : Nat) : Int) = E := ⟨_, rfl⟩
        have HGO2 : Hid (∀ W, Calls Tryz.prog 21 #[.string F] W fun e w' => Below W.heap.size W w' ∧ ∃ u, e = .returned (.tuple #[u, .int .i64 E]) ∧ (fun (_ : Value) (_ : World) => True) u w') := Lib.hid (fun W => by
          refine (HGO.out W).mono fun e w' hh => ⟨hh.1, ?_⟩
          have h2 := hh.2
          have hEE := HE.out
          cases ho : getOs l with
          | none =>
            rw [ho] at h2 hEE
            rw [if_pos rfl] at hEE
            exact ⟨_, by rw [h2, ← hE, hEE]; rfl, trivial⟩
          | some os =>
            rw [ho] at h2 hEE
            rw [if_neg (by simp)] at hEE
            obtain ⟨v, e1, _⟩ := h2
            exact ⟨v, by rw [e1, ← hE, hEE]; rfl, trivial⟩)
        have HGO := HGO2
        obtain ⟨R, hR⟩ : ∃ R : Value → World → Prop, (fun (_ : Value) (_ : World) => True) = R := ⟨_, rfl⟩
        have HR : Hid (∀ u x y, R u x → Below x.heap.size x y → R u y) := Lib.hid (by rw [← hR]; exact fun _ _ _ _ _ => trivial)
        rw [hR] at HGO
        have HO4 := Lib.hid hoff4
        have HOB : Hid (OF < 9223372036854775808) := Lib.hid (by omega)
        clear HGO2 hR HE hd hoff4 hyo
        refine Rg.regionR (by kernel_rfl) [37, 38, 39, 40, 41, 42, 43, 44, 45, 46, 47, 36, 48, 49, 4] (woK s C g S OF F E R false) (fun x y => Below x.heap.size x y) (by kernel_rfl) (Below.refl _ _) (fun _ _ _ h k => bel_trans h k) (woK_keep s C g S OF F E R false HR.out) ⟨?_, ?_, ?_, ?_, ?_, ?_, ?_, ?_, ?_, ?_, ?_, ?_, ?_, ?_, ?_, trivial⟩ ?_
        · intro a W hsl hs hd K1 hk
          exact Rg.val hk rfl (ex_move _ W _ _ _ rfl ((hsl 0 (by decide)).trans rfl)) (Below.refl _ _) rfl
        · intro a W hsl hs hd K1 hk
          exact Rg.val hk rfl (ex_fieldX _ W _ _ C 6 (by decide) rfl ((hsl 3 (by decide)).trans rfl)) (Below.refl _ _) rfl
        · intro a W hsl hs hd K1 hk
          have e0 : a.eval (.tmp 38) = .pointer (some ⟨C, 6, none⟩) := hd ⟨1, .data⟩ (by simp) rfl
          exact Rg.val hk rfl (ex_load _ W _ C 6 _ _ (.int .i64 g.type) rfl (.inl rfl) e0 (((HHB.out.drew).below hs).cell 6 (.int .i64 g.type) rfl)) (Below.refl _ _) rfl
        · intro a W hsl hs hd K1 hk
          exact Rg.val hk rfl (ex_fieldX _ W _ _ C 7 (by decide) rfl ((hsl 3 (by decide)).trans rfl)) (Below.refl _ _) rfl
        · intro a W hsl hs hd K1 hk
          have e0 : a.eval (.tmp 40) = .pointer (some ⟨C, 7, none⟩) := hd ⟨3, .data⟩ (by simp) rfl
          exact Rg.val hk rfl (ex_load _ W _ C 7 _ _ (.bool g.x) rfl (.inr (.inl rfl)) e0 (((HHB.out.drew).below hs).cell 7 (.bool g.x) rfl)) (Below.refl _ _) rfl
        · intro a W hsl hs hd K1 hk
          have e0 : a.eval (.tmp 39) = .int .i64 g.type := hd ⟨2, .data⟩ (by simp) rfl
          have e1 : a.eval (.tmp 41) = .bool g.x := hd ⟨4, .data⟩ (by simp) rfl
          refine Rg.call hk rfl (ex_refSize _ W _ _ _ _ _ _ rfl e0 e1 rfl) ((HSZ.out W).mono ?_)
          rintro e w5 ⟨rfl, rfl⟩
          exact ⟨_, rfl, Below.refl _ _, rfl⟩
        · intro a W hsl hs hd K1 hk
          exact Rg.val hk rfl (ex_fieldX _ W _ _ C 2 (by decide) rfl ((hsl 3 (by decide)).trans rfl)) (Below.refl _ _) rfl
        · intro a W hsl hs hd K1 hk
          have e0 : a.eval (.tmp 43) = .pointer (some ⟨C, 2, none⟩) := hd ⟨6, .data⟩ (by simp) rfl
          exact Rg.val hk rfl (ex_load _ W _ C 2 _ _ (.int .i64 g.off) rfl (.inl rfl) e0 (((HHB.out.drew).below hs).cell 2 (.int .i64 g.off) rfl)) (Below.refl _ _) rfl
        · intro a W hsl hs hd K1 hk
          have e0 : a.eval (.tmp 44) = .int .i64 g.off := hd ⟨7, .data⟩ (by simp) rfl
          exact Rg.val hk rfl (ex_mul4 _ W _ _ g.off OF HO4.out HOB.out rfl e0 rfl) (Below.refl _ _) rfl
        · intro a W hsl hs hd K1 hk
          have e0 : a.eval (.tmp 37) = .string s := hd ⟨0, .data⟩ (by simp) rfl
          have e1 : a.eval (.tmp 42) = .int .i64 (S : Nat) := hd ⟨5, .data⟩ (by simp) rfl
          have e2 : a.eval (.tmp 45) = .int .i64 (OF : Nat) := hd ⟨8, .data⟩ (by simp) rfl
          exact Rg.val hk rfl (ex_sliceT _ W _ _ _ _ _ _ s F rfl e0 e1 e2 HSLI.out) (Below.refl _ _) rfl
        · intro a W hsl hs hd K1 hk
          have e0 : a.eval (.tmp 46) = .string F := hd ⟨9, .data⟩ (by simp) rfl
          refine Rg.call hk rfl (ex_getopts _ W _ _ _ _ rfl e0 rfl) ((HGO.out W).mono ?_)
          rintro e w5 ⟨hb5, u5, rfl, hu5⟩
          exact ⟨_, rfl, hb5, ⟨u5, rfl, hu5⟩⟩
        · intro a W hsl hs hd K1 hk
          obtain ⟨u5, e0, hu5⟩ : ∃ u, a.eval (.tmp 47) = .tuple #[u, .int .i64 E] ∧ R u W := hd ⟨10, .data⟩ (by simp) rfl
          exact Rg.val hk rfl (ex_move _ W _ _ _ rfl e0) (Below.refl _ _) ⟨u5, rfl, hu5⟩
        · intro a W hsl hs hd K1 hk
          obtain ⟨u5, e0, hu5⟩ : ∃ u, a.eval (.tmp 36) = .tuple #[u, .int .i64 E] ∧ R u W := hd ⟨11, .data⟩ (by simp) rfl
          exact Rg.val hk rfl (ex_extract0 _ W _ _ _ _ rfl e0) (Below.refl _ _) hu5
        · intro a W hsl hs hd K1 hk
          obtain ⟨u5, e0, hu5⟩ : ∃ u, a.eval (.tmp 36) = .tuple #[u, .int .i64 E] ∧ R u W := hd ⟨11, .data⟩ (by simp) rfl
          exact Rg.val hk rfl (ex_extract1 _ W _ _ _ _ rfl e0) (Below.refl _ _) rfl
        · intro a W hsl hs hd K1 hk
          have e0 : a.eval (.tmp 49) = .int .i64 E := hd ⟨13, .data⟩ (by simp) rfl
          exact Rg.val hk rfl (ex_setV _ W _ _ _ rfl e0) (Below.refl _ _) rfl
        · intro W5 f hs hk
          have e4 : f 4 = .int .i64 E := hk 14 (by decide)
          clear hk
          simp only [Rg.puts, List.foldl_cons, List.foldl_nil, Act.put, List.setIfInBounds_toArray, List.set_cons_succ, List.set_cons_zero, e4]
          clear e4
          have HBX := Lib.hid (bel_trans HBW.out.drew hs)
          clear hs
          go_wp2_with fail
          go_ret
          exact ⟨by rw [hE]; rfl, HBX.out⟩
      · rw [if_pos h6] at HE
        have hq6 : ((q : Int) != 0) = true := by rw [bne_iff_ne]; omega
        clear h6
        go_wp2_with (first
          | (go_at_call 55; (with_reducible refine (HCV.out _).mono ?_); rintro e W8 ⟨rfl, rfl⟩)
          | (go_at_call 56; (with_reducible refine (HSK.out _).mono ?_); rintro e W8 ⟨rfl, rfl⟩))
        go_ret
        exact ⟨by rw [HE.out]; rfl, HBW.out⟩
    · have hcf : c = false := by simpa using hcc
      subst hcf
      rw [if_pos rfl] at HE
      clear hcc HCI HST HSM
      go_wp2_with (go_at_call 55; (with_reducible refine (HCV.out _).mono ?_); rintro e W8 ⟨rfl, rfl⟩)
      go_ret
      exact ⟨by rw [HE.out]; rfl, HBW.out⟩
  · have HR : Hid (getErr l = faultN l) := Lib.hid (by unfold getErr; rw [if_neg h13, if_pos hf])
    obtain ⟨g, hg⟩ : ∃ g, gotHdW l = g := ⟨_, rfl⟩
    obtain ⟨f, hff⟩ : ∃ f, faultN l = f := ⟨_, rfl⟩
    rw [hs, hg, hff] at HG
    rw [hff] at HR hf
    have hfn : ((f : Int) != 0) = true := by rw [bne_iff_ne]; omega
    rw [hs]
    clear hs hsz h13 hf hg hff
    go_enter Tryz.func19, Tryz.ntmps19
    go_wp2_with (first
      | (go_at_call 14; refine (HG.out _).mono ?_; rintro e W1 ⟨rfl, hb1⟩)
      | (refine store_blk rfl _ _ rfl _ Hd.zero g rfl rfl (hd_new _) ?_; intro W2 hc2 hg2))
    go_ret
    exact ⟨by rw [HR.out]; rfl, (bel_trans hb1 (bel_alloc _ _)).grown hg2 (bel_trans hb1 (bel_alloc _ _)).size (fun k hk => by cases hk; exact hb1.size)⟩
end Go.Proofs.YtcdhllajdpalaaaGreatDoor
