/-
  What the laws of package valid ask, in numbers.
  A drawn region in two stages, step by step: what reads and calls is taken while S holds; what writes comes behind, and need not keep S.
  Package valid: Answer, of packets without options; a view of a law's own.
  An argument that is a view, opened.
  The law ValidStates, walked (its opening handed in).
-/
import Derived.Test.YtnhlachoimlhhaaGreatDoorVdM
import Derived.Deep.RegionHeld3
import Derived.Test.YtnhlachoimlhhaaGreatDoorVdB
import Derived.OpenShut
import Derived.ChangeSame
import Derived.Test.YtnhlachoimlhhaaGreatDoorFtW
namespace Go.Proofs.YtnhlachoimlhhaaGreatDoor
open Go.ChangeShapes Go.WideShapes Go.ChangeAt Go.RowKit
set_option linter.unusedVariables false
set_option linter.unusedSimpArgs false

/-- A packet's head that has a type, long numbers, and nothing else. -/
def vHd (t : Int) (s a : Nat) : Hd := ⟨0, 0, 0, 0, 0, 0, t, true, s, a, 0, 0, 0, 0, 0⟩
/-- A view with what came last as what came first. -/
def vAt (st : Int) (g a : Nat) (mine theirs : Int) : Vw := ⟨st, a, g, a, a, g, mine, theirs⟩
theorem vHd_long (v : Vw) (t : Int) (s a : Nat) : v.long (vHd t s a) = vHd t s a := Vw.long_x rfl
theorem vAt_swl (st : Int) (g a : Nat) (mine theirs : Int) (hg : g < 281474976710656) : (vAt st g a mine theirs).swl = g := swl_at (vAt st g a mine theirs) hg rfl
theorem vAt_awl (st : Int) (g a : Nat) (mine theirs : Int) (ha : a < 281474976710656) : (vAt st g a mine theirs).awl = a := awl_at (vAt st g a mine theirs) ha rfl
theorem vAt_awh (st : Int) (g a : Nat) (mine theirs : Int) (ha : a < 281474976710656) : (vAt st g a mine theirs).awh = a := awh_at (vAt st g a mine theirs) ha
/-- A number so far on is in the window. -/
theorem vAt_seq (st : Int) (g a : Nat) (mine theirs : Int) (hg : g < 281474976710656) (t : Int) (d : Int) (k : Nat) (hd : -1099511637776 ≤ d ∧ d ≤ 1099511637776) :
    (vAt st g a mine theirs).seqB (vHd t (stepN g d) k) = decide (0 ≤ d ∧ d ≤ 3 * winN theirs / 4) := by
  have hw := winN_in theirs
  have e0 := stepN_zero g hg
  unfold Vw.seqB
  rw [vAt_swl st g a mine theirs hg]
  show inB g (stepN g d) (stepN g (3 * winN theirs / 4)) = _
  have h := inB_steps g 0 d (3 * winN theirs / 4) (by omega) hd (by omega) (by omega)
  rw [e0] at h
  exact h
theorem inB_self (a : Nat) : inB a a a = true := by unfold inB; simp
theorem vAt_ack (st : Int) (g a : Nat) (mine theirs : Int) (ha : a < 281474976710656) (t : Int) (s : Nat) : (vAt st g a mine theirs).ackB (vHd t s a) = true := by
  unfold Vw.ackB
  rw [vAt_awl st g a mine theirs ha, vAt_awh st g a mine theirs ha]
  exact inB_self a
theorem vAt_end (st : Int) (g a : Nat) (mine theirs : Int) (hg : g < 281474976710656) (ha : a < 281474976710656) (t : Int) (d : Int) (hd : -1099511637776 ≤ d ∧ d ≤ 1099511637776) :
    (vAt st g a mine theirs).endB (vHd t (stepN g d) a) = decide (1 ≤ d ∧ d ≤ 3 * winN theirs / 4) := by
  have hw := winN_in theirs
  unfold Vw.endB
  rw [vAt_awh st g a mine theirs ha]
  show (inB (stepN g 1) (stepN g d) (stepN g (3 * winN theirs / 4)) && inB a a a) = _
  rw [inB_steps g 1 d (3 * winN theirs / 4) (by omega) hd (by omega) (by omega), inB_self, Bool.and_true]
theorem vAt_less (st : Int) (g a : Nat) (mine theirs : Int) (hg : g < 281474976710656) (d : Int) (hd : -1099511637776 ≤ d ∧ d ≤ 1099511637776) :
    decide (diffI (stepN g d) (vAt st g a mine theirs).swl < 0) = decide (d < 0) := by
  rw [vAt_swl st g a mine theirs hg]
  have h := less_steps g d 0 hd (by omega)
  rw [stepN_zero g hg] at h
  exact h
/-- Which types are good in which state, their numbers being right. -/
def vsGood (st t : Int) : Bool := if st = 1 then decide (t = 0) else if st = 2 then decide (t = 1) || decide (t = 7) else if st = 3 then decide (t ≠ 1) else if st = 0 ∨ st = 8 then false else decide (2 ≤ t)
theorem vs_judge (st : Int) (hs0 : 0 ≤ st) (hst : st ≤ 8) (g a : Nat) (mine theirs : Int) (hg : g < 281474976710656) (ha : a < 281474976710656) (t : Int) (h0 : 0 ≤ t) (h9 : t ≤ 9) :
    decide ((vAt st g a mine theirs).judge (vHd t (stepN g 1) (if hasAckB t = true then a else 0)) = 1) = vsGood st t := by
  have hw := winN_in theirs
  have hs := fun k => vAt_seq st g a mine theirs hg t 1 k (by omega)
  have he := vAt_end st g a mine theirs hg ha t 1 (by omega)
  have hl := vAt_less st g a mine theirs hg 1 (by omega)
  have hk := vAt_ack st g a mine theirs ha t (stepN g 1)
  have d1 : decide ((0 : Int) ≤ 1 ∧ 1 ≤ 3 * winN theirs / 4) = true := decide_eq_true (by omega)
  have d2 : decide ((1 : Int) ≤ 1 ∧ 1 ≤ 3 * winN theirs / 4) = true := decide_eq_true (by omega)
  have d3 : decide ((1 : Int) < 0) = false := by decide
  rw [d2] at he
  rw [d3] at hl
  have hs2 := fun k => (hs k).trans d1
  have hl' : decide (diffI ((stepN g 1 : Nat) : Int) ((vAt st g a mine theirs).swl : Int) < 0) = false := hl
  have hl3 : 0 ≤ diffI ((stepN g 1 : Nat) : Int) ((vAt st g a mine theirs).swl : Int) := by have := of_decide_eq_false hl'; omega
  have ht : t = 0 ∨ t = 1 ∨ t = 2 ∨ t = 3 ∨ t = 4 ∨ t = 5 ∨ t = 6 ∨ t = 7 ∨ t = 8 ∨ t = 9 := by omega
  have hs8 : st = 0 ∨ st = 1 ∨ st = 2 ∨ st = 3 ∨ st = 4 ∨ st = 5 ∨ st = 6 ∨ st = 7 ∨ st = 8 := by omega
  have hst0 : (vAt st g a mine theirs).state = st := rfl
  generalize vAt st g a mine theirs = v at *
  clear hs d1 d2 d3 hl hw hg ha
  rcases ht with rfl | rfl | rfl | rfl | rfl | rfl | rfl | rfl | rfl | rfl
  all_goals
    unfold Vw.judge Vw.fitsB isSyncB
    rw [hst0]
    simp only [vHd, hasAckB] at hs2 he hl' hk ⊢
    rcases hs8 with rfl | rfl | rfl | rfl | rfl | rfl | rfl | rfl | rfl
    all_goals
      simp [vsGood, hs2, he, hl', hl3, hk]
      try exact decide_eq_false (by omega)
/-! ### Both ends of the window -/
/-! ### Short numbers -/
end Go.Proofs.YtnhlachoimlhhaaGreatDoor

namespace Go.Proofs.YtnhlachoimlhhaaGreatDoor
set_option linter.unusedVariables false

section
variable {P : Program} {md : Region.Mode} {ops : Array Oper} {Q : Exit → Act → World → Prop} {S : World → Prop} {n : Nat}

/-- Whatever order is picked from here on; behind each of the first n operations S holds. -/
def wpAnyT (P : Program) (md : Region.Mode) (ops : Array Oper) (Q : Exit → Act → World → Prop) (S : World → Prop) (n : Nat) : Nat → Array Bool → Act → World → Prop
  | 0, listed, a, w => Region.ready md ops listed = [] ∧ Q .normal a w
  | fuel + 1, listed, a, w =>
    (Region.ready md ops listed = [] → Q .normal a w) ∧
    ∀ i ∈ Region.ready md ops listed, wpOp P ops Q i (fun a' w' => (i < n → S w') ∧ wpAnyT P md ops Q S n fuel (listed.setIfInBounds i true) a' w') a w

theorem wpAny_of_T : ∀ (fuel : Nat) (listed : Array Bool) (a : Act) (w : World), wpAnyT P md ops Q S n fuel listed a w → wpAny P md ops Q fuel listed a w
  | 0, _, _, _, h => h
  | fuel + 1, _, _, _, h => ⟨h.1, fun i hi => wpOp_mono (fun a' w' h' => wpAny_of_T fuel _ a' w' h'.2) (h.2 i hi)⟩

/-- An operation that may come up now may be taken first, if it yields its value in every world that meets R, and what can come ahead of it keeps R. -/
theorem wpAnyT_first (R : World → Prop) {i : Nat} {oi : Oper} {v : Value} (hi : ops[i]? = some oi) (hsel : ∀ (j : Nat) (o : Oper) cs b, ops[j]? = some o → o.op ≠ .select cs b)
    (hQ : ∀ c a w, Q (.panic c) (a.put oi.dst v) w → Q (.panic c) a w)
    (hRS : ∀ W, R W → i < n → S W) (hT : ∀ j oj, ops[j]? = some oj → (∀ e ∈ oj.after, Region.binds md e = true → e.on ≠ i) → ∀ W, (j < n → S W) → R W) :
    ∀ (fuel : Nat) (listed : Array Bool) (a : Act) (w : World),
      (∀ j oj, ops[j]? = some oj → j ≠ i → listed.getD j true = false → (∀ e ∈ oj.after, Region.binds md e = true → e.on ≠ i) → oi.apart ops oj = true) →
      i ∈ Region.ready md ops listed → YieldsIf P ops R oi v a → R w →
      wpAnyT P md ops Q S n fuel (listed.setIfInBounds i true) (a.put oi.dst v) w → wpAnyT P md ops Q S n (fuel + 1) listed a w := by
  intro fuel
  induction fuel with
  | zero =>
    intro listed a w _ hr hy hR H
    refine ⟨fun h => (by rw [h] at hr; cases hr), fun j hj => ?_⟩
    by_cases hji : j = i
    · subst hji; exact hy.wpOp hi hR ⟨hRS w hR, H⟩
    · have := ready_mono hj hji
      rw [H.1] at this
      cases this
  | succ fuel ih =>
    intro listed a w hfree hr hy hR H
    refine ⟨fun h => (by rw [h] at hr; cases hr), fun j hj => ?_⟩
    by_cases hji : j = i
    · subst hji; exact hy.wpOp hi hR ⟨hRS w hR, H⟩
    · have h1 := H.2 j (ready_mono hj hji)
      obtain ⟨hjun, oj, hoj, hall⟩ := mem_ready.1 hj
      have hnot : ∀ e ∈ oj.after, Region.binds md e = true → e.on ≠ i := fun e he hb heq => by
        have h1 := hall e he hb
        have h0 := (mem_ready.1 hr).1
        rw [heq] at h1
        rcases Nat.lt_or_ge i listed.size with h' | h'
        · simp [h'] at h0 h1; rw [h0] at h1; cases h1
        · simp [Array.getElem?_eq_none h'] at h1
      have h2 := wpOp_putIf hoj (hfree j oj hoj hji hjun hnot) (fun cs b => hsel i oi cs b hi) (fun cs b => hsel j oj cs b hoj) hQ hy h1
      have hfree' : ∀ k ok, ops[k]? = some ok → k ≠ i → (listed.setIfInBounds j true).getD k true = false →
          (∀ e ∈ ok.after, Region.binds md e = true → e.on ≠ i) → oi.apart ops ok = true := fun k ok hk hki hun hno => by
        refine hfree k ok hk hki ?_ hno
        by_cases hjk : j = k
        · subst hjk; exact hjun
        · rw [getD_set_ne true hjk] at hun; exact hun
      refine wpOp_mono (fun a' w' h3 => ⟨h3.2.1, ih (listed.setIfInBounds j true) a' w' hfree' (ready_mono hr (Ne.symm hji)) h3.1 (hT j oj hoj hnot w' h3.2.1) ?_⟩) h2
      rw [Array.setIfInBounds_comm _ _ hji]
      exact h3.2.2

/-- All from n on wait for operation i. -/
def waitsB (md : Region.Mode) (ops : Array Oper) (n i : Nat) : Bool :=
  (List.range ops.size).all fun t => decide (t < n) || (match ops[t]? with | some o => o.after.toList.any (fun e => Region.binds md e && decide (e.on = i)) | none => true)
theorem waits_spec {i : Nat} (hw : waitsB md ops n i = true) (j : Nat) (oj : Oper) (hj : ops[j]? = some oj) (hnot : ∀ e ∈ oj.after, Region.binds md e = true → e.on ≠ i) : j < n := by
  have hlt : j < ops.size := (Array.getElem?_eq_some_iff.1 hj).1
  have h := List.all_eq_true.1 hw j (List.mem_range.2 hlt)
  rw [hj] at h
  simp only [Bool.or_eq_true, decide_eq_true_eq] at h
  rcases h with h | h
  · exact h
  · obtain ⟨e, he, h2⟩ := List.any_eq_true.1 h
    simp only [Bool.and_eq_true, decide_eq_true_eq] at h2
    exact absurd h2.2 (hnot e (by simpa using he) h2.1)

/-- One of the first n, for which all behind them wait: it yields its value wherever S holds. -/
theorem wpAnyT_takeK {i d : Nat} (op : Op) (v : Value) {fuel : Nat} {listed : Array Bool} {a : Act} {w : World}
    (hk : (ops[i]?).map (fun o => (o.dst, o.op, Region.wanted o (yielded ops a.tmps))) = some (some d, op, true))
    (hs : Region.noSelect ops = true) (hf : Region.free md ops listed i = true) (hr : (Region.ready md ops listed).contains i = true) (hw : waitsB md ops n i = true)
    (hQ : ∀ c a w, Q (.panic c) (a.put (some d) v) w → Q (.panic c) a w)
    (hy : ∀ o : Oper, o.op = op → ∀ W, S W → (execOp a.eval o).run P W = .ok (.value v) W) (hS : S w)
    (h : wpAnyT P md ops Q S n fuel (listed.setIfInBounds i true) (a.put (some d) v) w) : wpAnyT P md ops Q S n (fuel + 1) listed a w := by
  cases ho : ops[i]? with
  | none => rw [ho] at hk; cases hk
  | some o =>
    rw [ho] at hk
    injection hk with hk
    injection hk with h1 h2
    injection h2 with h2 h3
    rw [← h1] at h hQ
    exact wpAnyT_first S ho (Region.noSelect_spec hs) hQ (fun _ hW _ => hW) (fun j oj hj hnot W hW => hW (waits_spec hw j oj hj hnot)) fuel listed a w (Region.free_spec ho hf) (by simpa using hr) (.inl ⟨h3, hy o h2⟩) hS h
/-- One of those behind them that looks at no memory. -/
theorem wpAnyT_tailK {i d : Nat} (op : Op) (v : Value) {fuel : Nat} {listed : Array Bool} {a : Act} {w : World}
    (hk : (ops[i]?).map (fun o => (o.dst, o.op, Region.wanted o (yielded ops a.tmps))) = some (some d, op, true))
    (hs : Region.noSelect ops = true) (hf : Region.free md ops listed i = true) (hr : (Region.ready md ops listed).contains i = true) (hn : n ≤ i)
    (hQ : ∀ c a w, Q (.panic c) (a.put (some d) v) w → Q (.panic c) a w)
    (hy : ∀ o : Oper, o.op = op → ∀ W, (execOp a.eval o).run P W = .ok (.value v) W)
    (h : wpAnyT P md ops Q S n fuel (listed.setIfInBounds i true) (a.put (some d) v) w) : wpAnyT P md ops Q S n (fuel + 1) listed a w := by
  cases ho : ops[i]? with
  | none => rw [ho] at hk; cases hk
  | some o =>
    rw [ho] at hk
    injection hk with hk
    injection hk with h1 h2
    injection h2 with h2 h3
    rw [← h1] at h hQ
    exact wpAnyT_first (fun _ => True) ho (Region.noSelect_spec hs) hQ (fun _ _ hi => absurd hi (Nat.not_lt.2 hn)) (fun _ _ _ _ _ _ => trivial) fuel listed a w (Region.free_spec ho hf) (by simpa using hr) (.inl ⟨h3, fun W _ => hy o h2 W⟩) trivial h

def AllReadyT (P : Program) (md : Region.Mode) (ops : Array Oper) (Q : Exit → Act → World → Prop) (S : World → Prop) (n : Nat) (fuel : Nat) (listed : Array Bool) (a : Act) (w : World) (rs : List Nat) : Prop :=
  ∀ i ∈ rs, wpOp P ops Q i (fun a' w' => (i < n → S w') ∧ wpAnyT P md ops Q S n fuel (listed.setIfInBounds i true) a' w') a w
theorem AllReadyT.nil {fuel : Nat} {listed : Array Bool} {a : Act} {w : World} : AllReadyT P md ops Q S n fuel listed a w [] := fun _ h => by cases h
theorem AllReadyT.cons {fuel : Nat} {listed : Array Bool} {a : Act} {w : World} {i : Nat} {o : Oper} {rs : List Nat} (ho : ops[i]? = some o)
    (h : ∀ K' : Act → World → Prop, Shut (∀ a w, (i < n → S w) → wpAnyT P md ops Q S n fuel (listed.setIfInBounds i true) a w → K' a w) → if Region.wanted o (yielded ops a.tmps) = true then Oper.wp P o a w K' Q else K' (a.put o.dst undef) w)
    (hs : AllReadyT P md ops Q S n fuel listed a w rs) : AllReadyT P md ops Q S n fuel listed a w (i :: rs) := fun j hj => by
  rcases List.mem_cons.1 hj with rfl | hj
  · exact wpOp_step ho (fun K' hK => h K' (fun a w hS hW => hK a w ⟨hS, hW⟩))
  · exact hs j hj
theorem wpAnyT_ready {rs : List Nat} {fuel : Nat} {listed : Array Bool} {a : Act} {w : World} (hr : Region.ready md ops listed = rs) (hne : rs ≠ [])
    (h : AllReadyT P md ops Q S n fuel listed a w rs) : wpAnyT P md ops Q S n (fuel + 1) listed a w := ⟨fun h0 => absurd (hr ▸ h0) hne, hr ▸ h⟩
theorem wpAnyT_done {listed : Array Bool} {a : Act} {w : World} (hr : Region.ready md ops listed = []) (h : Q .normal a w) :
    ∀ fuel, wpAnyT P md ops Q S n fuel listed a w
  | 0 => ⟨hr, h⟩
  | _ + 1 => ⟨fun _ => h, by rw [hr]; simp⟩
theorem wp_region_T (S : World → Prop) (n : Nat) {id : Nat} {a : Act} {w : World} (hm : P.follows .mixedOrders = true)
    (h : wpAnyT P .any ops Q S n ops.size (Array.replicate ops.size false) a w.drew) : (Code.region id ops true).wp P Q a w :=
  wp_region_any hm (wpAny_of_T _ _ _ _ h)
end
end Go.Proofs.YtnhlachoimlhhaaGreatDoor

namespace Go.Proofs.YtnhlachoimlhhaaGreatDoor
open Go.ChangeShapes Go.WideShapes Go.ChangeAt Go.RowKit
set_option linter.unusedVariables false
set_option linter.unusedSimpArgs false

/-- A view boxed at the law's beginning. -/
structure VwIn (v : Vw) (w W : World) : Prop where
  vw : BlkIs (vwCells v) 59 w.heap.size W
  bel : Below w.heap.size w W
theorem VwIn.new (v : Vw) (w : World) : ∃ W, w.alloc (.cells #[.int .i64 v.state, .int .u64 v.gss, .int .u64 v.gsr, .int .u64 v.gar, .int .u64 v.iss, .int .u64 v.isr, .int .i64 v.mine, .int .i64 v.theirs] 59) = W ∧ VwIn v w W :=
  ⟨_, rfl, BlkIs.new (vwCells v) _ w, bel_alloc _ _⟩
theorem VwIn.set {v v2 : Vw} {w W : World} (a : VwIn v w W) (i : Nat) (x : Value) (e : (vwCells v).setIfInBounds i x = vwCells v2) : VwIn v2 w (W.setCell ⟨w.heap.size, i, none⟩ x) :=
  ⟨by rw [← e]; exact a.vw.set i x, a.bel.setCell (p := ⟨w.heap.size, i, none⟩) (Nat.le_refl _) _⟩
theorem VwIn.below {v : Vw} {w W W' : World} (a : VwIn v w W) (b : Below W.heap.size W W') : VwIn v w W' := ⟨a.vw.below b, bel_trans a.bel b⟩
theorem VwIn.drew {v : Vw} {w W : World} (a : VwIn v w W) : VwIn v w W.drew := a.below (bel_drewN _ 1)
theorem VwIn.alloc {v : Vw} {w W : World} (a : VwIn v w W) (o : Obj) : VwIn v w (W.alloc o) := a.below (bel_alloc _ _)
theorem VwIn.far {v : Vw} {w W : World} (a : VwIn v w W) {p : Addr} (hp : w.heap.size < p.block) (x : Value) : VwIn v w (W.setCell p x) :=
  ⟨a.vw.far (by omega) x, a.bel.setCell (p := p) (Nat.le_of_lt hp) _⟩
theorem VwIn.lt {v : Vw} {w W : World} (a : VwIn v w W) : w.heap.size < W.heap.size := a.vw.lt
/-- A packet of the law's own, without options. -/
def PkOf (h : Hd) (s : ByteArray) (H : Nat) (W : World) : Prop := BlkIs (pkCells h (.slice none 0 0) s) 68 H W
theorem PkOf.below {h : Hd} {s : ByteArray} {H : Nat} {W W' : World} (a : PkOf h s H W) (b : Below W.heap.size W W') : PkOf h s H W' := BlkIs.below a b
theorem PkOf.set {h h2 : Hd} {s : ByteArray} {H : Nat} {W : World} (a : PkOf h s H W) (i : Nat) (x : Value) (e : (pkCells h (.slice none 0 0) s).setIfInBounds i x = pkCells h2 (.slice none 0 0) s) : PkOf h2 s H (W.setCell ⟨H, i, none⟩ x) := by
  unfold PkOf; rw [← e]; exact BlkIs.set a i x
theorem PkOf.far {h : Hd} {s : ByteArray} {H : Nat} {W : World} (a : PkOf h s H W) {p : Addr} (hp : H ≠ p.block) (x : Value) : PkOf h s H (W.setCell p x) := BlkIs.far a hp x
theorem PkOf.made (h : Hd) (s : ByteArray) (W : World) : PkOf h s W.heap.size (W.alloc (.cells (pkCells h (.slice none 0 0) s) 68)) := BlkIs.new _ _ W

end Go.Proofs.YtnhlachoimlhhaaGreatDoor

namespace Go.Proofs.YtnhlachoimlhhaaGreatDoor
open Go.ChangeShapes Go.WideShapes Go.RowKit
set_option linter.unusedVariables false

theorem int_cellV {H : Type} {enc : TypeId × Value → H} {P : Program} {W : World} {base : Nat} {sp : Nat → Bool} {held : Bool} {n : Nat} {t : TypeId} {k : IntKind} {v : Value} {o : Option (DataW H × List MemPlace)}
    (ht : P.underlying t = some (.int k)) (hn : o ≠ none) (h : DataW.trod enc P W base sp held n t [v] = o) : ∃ z, v = .int k z ∧ (Lit.int k z).wf = true := by
  cases o with
  | none => exact absurd rfl hn
  | some x =>
    obtain ⟨z, hz, _, hw⟩ := DataW.trod_int ht h
    simp at hz
    exact ⟨z, hz, hw⟩
theorem some_atV {α : Type} {l : List α} {i : Nat} (h : i < l.length) : l[i]? ≠ none := by
  rw [List.getElem?_eq_getElem h]; exact fun e => by cases e
set_option maxRecDepth 100000 in
set_option maxHeartbeats 2000000 in
theorem open_vcells {H : Type} {enc : TypeId × Value → H} {W : World} {base : Nat} {sp : Nat → Bool} {held : Bool} {fuel : Nat} {cs : List Value} {x : DataW H × List MemPlace}
    (h : DataW.trod enc Tryz.prog W base sp held fuel 59 cs = some x) : ∃ g : Vw, cs = (vwCells g).toList ∧ g.Ok := by
  obtain ⟨ys, n, hn, _, hlen, hyl, hf⟩ := DataW.trod_struct Tryz.underlying59 h
  have hC : Tryz.prog.cellsOf 59 = 8 := by kernel_rfl
  rw [hC] at hlen
  have hy : ys.length = 8 := hyl
  match cs, hlen with
  | [c0, c1, c2, c3, c4, c5, c6, c7], _ =>
    have f0 : DataW.trod enc Tryz.prog W base sp held n 3 [c0] = ys[0]? := hf 0 _ rfl
    have f1 : DataW.trod enc Tryz.prog W base sp held n 55 [c1] = ys[1]? := hf 1 _ rfl
    have f2 : DataW.trod enc Tryz.prog W base sp held n 55 [c2] = ys[2]? := hf 2 _ rfl
    have f3 : DataW.trod enc Tryz.prog W base sp held n 55 [c3] = ys[3]? := hf 3 _ rfl
    have f4 : DataW.trod enc Tryz.prog W base sp held n 55 [c4] = ys[4]? := hf 4 _ rfl
    have f5 : DataW.trod enc Tryz.prog W base sp held n 55 [c5] = ys[5]? := hf 5 _ rfl
    have f6 : DataW.trod enc Tryz.prog W base sp held n 3 [c6] = ys[6]? := hf 6 _ rfl
    have f7 : DataW.trod enc Tryz.prog W base sp held n 3 [c7] = ys[7]? := hf 7 _ rfl
    obtain ⟨z0, rfl, w0⟩ := int_cellV Tryz.underlying3 (some_atV (by omega)) f0
    obtain ⟨z1, rfl, w1⟩ := int_cellV Tryz.underlying55 (some_atV (by omega)) f1
    obtain ⟨z2, rfl, w2⟩ := int_cellV Tryz.underlying55 (some_atV (by omega)) f2
    obtain ⟨z3, rfl, w3⟩ := int_cellV Tryz.underlying55 (some_atV (by omega)) f3
    obtain ⟨z4, rfl, w4⟩ := int_cellV Tryz.underlying55 (some_atV (by omega)) f4
    obtain ⟨z5, rfl, w5⟩ := int_cellV Tryz.underlying55 (some_atV (by omega)) f5
    obtain ⟨z6, rfl, w6⟩ := int_cellV Tryz.underlying3 (some_atV (by omega)) f6
    obtain ⟨z7, rfl, w7⟩ := int_cellV Tryz.underlying3 (some_atV (by omega)) f7
    have b1 := bounds_u64 w1
    have b2 := bounds_u64 w2
    have b3 := bounds_u64 w3
    have b4 := bounds_u64 w4
    have b5 := bounds_u64 w5
    obtain ⟨n1, rfl⟩ := Int.eq_ofNat_of_zero_le b1.1
    obtain ⟨n2, rfl⟩ := Int.eq_ofNat_of_zero_le b2.1
    obtain ⟨n3, rfl⟩ := Int.eq_ofNat_of_zero_le b3.1
    obtain ⟨n4, rfl⟩ := Int.eq_ofNat_of_zero_le b4.1
    obtain ⟨n5, rfl⟩ := Int.eq_ofNat_of_zero_le b5.1
    exact ⟨⟨z0, n1, n2, n3, n4, n5, z6, z7⟩, rfl, ⟨by show n1 < _; omega, by show n2 < _; omega, by show n3 < _; omega, by show n4 < _; omega, by show n5 < _; omega, bounds_i64 w6, bounds_i64 w7⟩⟩

set_option maxRecDepth 100000 in
theorem open_view {H : Type} {enc : TypeId × Value → H} {W : World} {r : Reach} {b0 : Nat} {sp : Nat → Bool} {held : Bool} {v : Value} {d : DataW H} {q : List MemPlace}
    (hv : Value.okWide Tryz.prog W r b0 59 v) (h : DataW.Trod enc Tryz.prog W 0 sp held 59 v d q) : ∃ g : Vw, v = g.val ∧ g.Ok := by
  obtain ⟨cs, rfl, hsz⟩ := okWide_struct Tryz.underlying59 hv
  obtain ⟨fuel, hf⟩ := h
  obtain ⟨g, hg, h1⟩ := open_vcells hf
  refine ⟨g, ?_, h1⟩
  have e : cs.toList = (vwCells g).toList := hg
  rw [Array.toList_inj] at e
  rw [e]; rfl
end Go.Proofs.YtnhlachoimlhhaaGreatDoor

namespace Go.Proofs.YtnhlachoimlhhaaGreatDoor
open Go.ChangeShapes Go.WideShapes Go.ChangeAt Go.RowKit
set_option linter.unusedVariables false
set_option linter.unusedSimpArgs false

/-- The types that are good in a state, of the first k, as digits. -/
def vsL (st : Int) : Nat → List UInt8
  | 0 => []
  | k + 1 => vsL st k ++ (if vsGood st (k : Int) = true then [UInt8.ofNat (48 + k)] else [])
theorem vsL_len (st : Int) : ∀ k, (vsL st k).length ≤ k
  | 0 => Nat.le_refl _
  | k + 1 => by
    have := vsL_len st k
    unfold vsL
    rw [List.length_append]
    split <;> simp <;> omega
theorem vsL_yes (st : Int) (k : Nat) (h : vsGood st (k : Int) = true) : vsL st (k + 1) = vsL st k ++ [UInt8.ofNat (48 + k)] := by
  show vsL st k ++ (if vsGood st (k : Int) = true then _ else _) = _
  rw [if_pos h]
theorem vsL_no (st : Int) (k : Nat) (h : vsGood st (k : Int) = false) : vsL st (k + 1) = vsL st k := by
  show vsL st k ++ (if vsGood st (k : Int) = true then _ else _) = _
  rw [h]; simp
set_option maxHeartbeats 16000000 in
set_option maxRecDepth 100000 in
theorem validStates_walk (v : Vw) (hv : v.Ok) (sz : Int) (t1 : -9223372036854775808 ≤ sz) (t2 : sz ≤ 9223372036854775807) (w : World)
    (hbg : ∀ W, Below w.heap.size w W → Calls Tryz.prog 14 #[] W fun e w' => e = .returned (.bool true) ∧ Below W.heap.size W w') :
    Calls Tryz.prog 9 #[v.val, .int .i64 sz] w fun e w' => e = .returned (.bool true) ∧ Below w.heap.size w w' := by
  have HBG := Lib.hid hbg
  clear hbg
  obtain ⟨u0, e0, e01, e02, S0, e03, e04⟩ := mod_at sz 9 (by decide)
  obtain ⟨g, hg⟩ : ∃ g, v.gsr % 281474976710656 = g := ⟨_, rfl⟩
  obtain ⟨a, ha⟩ : ∃ a, v.gss % 281474976710656 = a := ⟨_, rfl⟩
  have hgb : g < 281474976710656 := by omega
  have hab : a < 281474976710656 := by omega
  have HQ1 : Hid (∀ W, Calls Tryz.prog 35 #[.int .u64 v.gsr] W fun e w' => e = .returned (.int .u64 (g : Nat)) ∧ W = w') := Lib.hid (fun W => by rw [← hg]; exact refSeq_any v.gsr hv.gsr W)
  have HQ2 : Hid (∀ W, Calls Tryz.prog 35 #[.int .u64 v.gss] W fun e w' => e = .returned (.int .u64 (a : Nat)) ∧ W = w') := Lib.hid (fun W => by rw [← ha]; exact refSeq_any v.gss hv.gss W)
  have s00 : (0 : Int) ≤ (S0 : Int) := by omega
  have lv := stepN_lt g
  have HS1 : Hid (∀ W, Calls Tryz.prog 36 #[.int .u64 g, .int .i64 1] W fun e w' => e = .returned (.int .u64 (stepN g 1 : Nat)) ∧ W = w') := Lib.hid (fun W => by rw [stepN_int]; exact refStep_any g 1 (by omega) (by omega) (by omega) W)
  have hvk : (vAt (S0 : Int) g a v.mine v.theirs).Ok := ⟨by show a < _; omega, by show g < _; omega, by show a < _; omega, by show a < _; omega, by show g < _; omega, hv.mine, hv.theirs⟩
  have HC : Hid (∀ (t : Int) (s k : Nat) (J : Int), s < 18446744073709551616 → k < 18446744073709551616 → (vAt (S0 : Int) g a v.mine v.theirs).judge (vHd t s k) = J → ∀ W, Calls Tryz.prog 37 #[(vAt (S0 : Int) g a v.mine v.theirs).val, Pv (vHd t s k) (.slice none 0 0) ⟨#[]⟩] W fun e w' => e = .returned (.int .i64 J) ∧ Below W.heap.size W w') := Lib.hid (fun t s k J hs hk hj W => by
    have h9 := vdCheck_nil (vAt (S0 : Int) g a v.mine v.theirs) hvk (vHd t s k) hs hk ⟨#[]⟩ W
    rw [vHd_long, hj] at h9
    exact h9)
  have HJ := Lib.hid (vs_judge (S0 : Int) s00 (by omega) g a v.mine v.theirs hgb hab)
  obtain ⟨W0, hW0, hv0⟩ := VwIn.new v w
  have HV0 := Lib.hid hv0
  clear hv0
  unfold Vw.val
  go_enter Tryz.func9, Tryz.ntmps9
  go_upto_region 1 with fail
  clear hW0
  go_upto_region 4 with (go_at_call 14; (with_reducible refine (HBG.out _ HV0.out.bel).mono ?_); rintro e w0 ⟨rfl, hb0⟩)
  have HV1 : Hid (VwIn v w w0) := Lib.hid (HV0.out.below hb0)
  clear hb0 HV0 HBG
  have c0 : w0.cell? ⟨w.heap.size, 0, none⟩ = some (.int .i64 v.state) := HV1.out.vw.cell 0
  have f0 := HV1.out.vw.free 0
  go_upto_region 6 with fail
  obtain ⟨W2, hW2⟩ : ∃ X, w0.setCell ⟨w.heap.size, 0, none⟩ (.int .i64 (S0 : Int)) = X := ⟨_, rfl⟩
  have HV2 : Hid (VwIn ⟨(S0 : Int), v.gss, v.gsr, v.gar, v.iss, v.isr, v.mine, v.theirs⟩ w W2) := Lib.hid (by rw [← hW2]; exact HV1.out.set 0 _ rfl)
  rw [hW2]
  clear hW2 c0 f0 HV1
  refine wp_region_T (fun W => VwIn ⟨(S0 : Int), v.gss, v.gsr, v.gar, v.iss, v.isr, v.mine, v.theirs⟩ w W) 6 (by kernel_rfl) ?_
  have hS := HV2.out.drew
  generalize W2.drew = Wd at hS ⊢
  refine wpAnyT_takeK (i := 0) (d := 18) (Op.fieldAddr 59 (Operand.tmp 2) 2) (.pointer (some ⟨w.heap.size, 2, none⟩)) (by kernel_rfl) (by kernel_rfl) (by kernel_rfl) (by kernel_rfl) (by kernel_rfl) (fun _ _ _ h => h) ?_ hS ?_
  · intro o ho W hW
    unfold execOp
    rw [ho]
    go_simp
  try simp only [Act.put, List.setIfInBounds_toArray, List.set_cons_zero, List.set_cons_succ]
  refine wpAnyT_takeK (i := 1) (d := 19) (Op.load 55 (Operand.tmp 18)) (.int .u64 v.gsr) (by kernel_rfl) (by kernel_rfl) (by kernel_rfl) (by kernel_rfl) (by kernel_rfl) (fun _ _ _ h => h) ?_ hS ?_
  · intro o ho W hW
    have c : W.cell? ⟨w.heap.size, 2, none⟩ = some (.int .u64 v.gsr) := (VwIn.vw hW).cell 2
    unfold execOp
    rw [ho]
    go_simp
  try simp only [Act.put, List.setIfInBounds_toArray, List.set_cons_zero, List.set_cons_succ]
  refine wpAnyT_takeK (i := 3) (d := 21) (Op.fieldAddr 59 (Operand.tmp 2) 1) (.pointer (some ⟨w.heap.size, 1, none⟩)) (by kernel_rfl) (by kernel_rfl) (by kernel_rfl) (by kernel_rfl) (by kernel_rfl) (fun _ _ _ h => h) ?_ hS ?_
  · intro o ho W hW
    unfold execOp
    rw [ho]
    go_simp
  try simp only [Act.put, List.setIfInBounds_toArray, List.set_cons_zero, List.set_cons_succ]
  refine wpAnyT_takeK (i := 4) (d := 22) (Op.load 55 (Operand.tmp 21)) (.int .u64 v.gss) (by kernel_rfl) (by kernel_rfl) (by kernel_rfl) (by kernel_rfl) (by kernel_rfl) (fun _ _ _ h => h) ?_ hS ?_
  · intro o ho W hW
    have c : W.cell? ⟨w.heap.size, 1, none⟩ = some (.int .u64 v.gss) := (VwIn.vw hW).cell 1
    unfold execOp
    rw [ho]
    go_simp
  try simp only [Act.put, List.setIfInBounds_toArray, List.set_cons_zero, List.set_cons_succ]
  refine wpAnyT_ready (rs := [2]) (by kernel_rfl) (by simp) ?_
  refine (AllReadyT.cons (o := { dst := some 20, op := Op.call { callee := Callee.value (Operand.func 35), args := #[Operand.tmp 19], argTypes := #[55] }, type := 55, pos := "more.go:172", after := #[{ on := 1, ground := Ground.data }], guard := none }) (by kernel_rfl) (fun K hK => ?_) AllReadyT.nil)
  go_simp
  go_at_call 35
  with_reducible refine (HQ1.out _).mono ?_
  rintro e wq ⟨rfl, rfl⟩
  refine hK.out _ _ (fun _ => hS) ?_
  clear hK K
  try simp only [Act.put, List.setIfInBounds_toArray, List.set_cons_zero, List.set_cons_succ]
  refine wpAnyT_tailK (i := 6) (d := 24) (Op.fieldAddr 59 (Operand.tmp 2) 2) (.pointer (some ⟨w.heap.size, 2, none⟩)) (by kernel_rfl) (by kernel_rfl) (by kernel_rfl) (by kernel_rfl) (by decide) (fun _ _ _ h => h) ?_ ?_
  · intro o ho W
    unfold execOp
    rw [ho]
    go_simp
  try simp only [Act.put, List.setIfInBounds_toArray, List.set_cons_zero, List.set_cons_succ]
  refine wpAnyT_ready (rs := [5]) (by kernel_rfl) (by simp) ?_
  refine (AllReadyT.cons (o := { dst := some 23, op := Op.call { callee := Callee.value (Operand.func 35), args := #[Operand.tmp 22], argTypes := #[55] }, type := 55, pos := "more.go:172", after := #[{ on := 4, ground := Ground.data }, { on := 2, ground := Ground.chain }], guard := none }) (by kernel_rfl) (fun K hK => ?_) AllReadyT.nil)
  go_simp
  go_at_call 35
  with_reducible refine (HQ2.out _).mono ?_
  rintro e wq ⟨rfl, rfl⟩
  refine hK.out _ _ (fun _ => hS) ?_
  clear hK K
  try simp only [Act.put, List.setIfInBounds_toArray, List.set_cons_zero, List.set_cons_succ]
  refine wpAnyT_ready (rs := [7]) (by kernel_rfl) (by simp) ?_
  refine (AllReadyT.cons (o := { dst := none, op := Op.store 55 (Operand.tmp 24) (Operand.tmp 20), type := 0, pos := "more.go:172", after := #[{ on := 6, ground := Ground.data }, { on := 2, ground := Ground.data }, { on := 5, ground := Ground.chain }, { on := 0, ground := Ground.phase }, { on := 1, ground := Ground.phase }, { on := 2, ground := Ground.phase }, { on := 3, ground := Ground.phase }, { on := 4, ground := Ground.phase }, { on := 5, ground := Ground.textOnly Departure.lateStoresUnsure }], guard := none }) (by kernel_rfl) (fun K hK => ?_) AllReadyT.nil)
  have c : (Wd).cell? ⟨w.heap.size, 2, none⟩ = some (.int .u64 v.gsr) := (VwIn.vw hS).cell 2
  have f := (VwIn.vw hS).free 2
  go_simp
  refine hK.out _ _ (fun h => absurd h (by decide)) ?_
  obtain ⟨W3, hY⟩ : ∃ X, (Wd).setCell ⟨w.heap.size, 2, none⟩ (.int .u64 g) = X := ⟨_, rfl⟩
  rw [hY]
  have HV3 : Hid (VwIn ⟨(S0 : Int), v.gss, g, v.gar, v.iss, v.isr, v.mine, v.theirs⟩ w W3) := Lib.hid (by rw [← hY]; exact VwIn.set hS 2 _ rfl)
  clear hY c f
  clear hK K
  try simp only [Act.put, List.setIfInBounds_toArray, List.set_cons_zero, List.set_cons_succ]
  refine wpAnyT_tailK (i := 8) (d := 25) (Op.fieldAddr 59 (Operand.tmp 2) 1) (.pointer (some ⟨w.heap.size, 1, none⟩)) (by kernel_rfl) (by kernel_rfl) (by kernel_rfl) (by kernel_rfl) (by decide) (fun _ _ _ h => h) ?_ ?_
  · intro o ho W
    unfold execOp
    rw [ho]
    go_simp
  try simp only [Act.put, List.setIfInBounds_toArray, List.set_cons_zero, List.set_cons_succ]
  refine wpAnyT_ready (rs := [9]) (by kernel_rfl) (by simp) ?_
  refine (AllReadyT.cons (o := { dst := none, op := Op.store 55 (Operand.tmp 25) (Operand.tmp 23), type := 0, pos := "more.go:172", after := #[{ on := 8, ground := Ground.data }, { on := 5, ground := Ground.data }, { on := 7, ground := Ground.chain }, { on := 0, ground := Ground.phase }, { on := 1, ground := Ground.phase }, { on := 2, ground := Ground.phase }, { on := 3, ground := Ground.phase }, { on := 4, ground := Ground.phase }, { on := 5, ground := Ground.phase }, { on := 6, ground := Ground.phase }, { on := 7, ground := Ground.phase }], guard := none }) (by kernel_rfl) (fun K hK => ?_) AllReadyT.nil)
  have c : (W3).cell? ⟨w.heap.size, 1, none⟩ = some (.int .u64 v.gss) := (VwIn.vw HV3.out).cell 1
  have f := (VwIn.vw HV3.out).free 1
  go_simp
  refine hK.out _ _ (fun h => absurd h (by decide)) ?_
  obtain ⟨W4, hY⟩ : ∃ X, (W3).setCell ⟨w.heap.size, 1, none⟩ (.int .u64 a) = X := ⟨_, rfl⟩
  rw [hY]
  have HV4 : Hid (VwIn ⟨(S0 : Int), a, g, v.gar, v.iss, v.isr, v.mine, v.theirs⟩ w W4) := Lib.hid (by rw [← hY]; exact VwIn.set HV3.out 1 _ rfl)
  clear hY c f
  clear hK K
  try simp only [Act.put, List.setIfInBounds_toArray, List.set_cons_zero, List.set_cons_succ]
  refine wpAnyT_done (by kernel_rfl) ?_ _
  clear hS HV2 HV3 HQ1 HQ2
  have c1 : W4.cell? ⟨w.heap.size, 1, none⟩ = some (.int .u64 a) := HV4.out.vw.cell 1
  have c2 : W4.cell? ⟨w.heap.size, 2, none⟩ = some (.int .u64 g) := HV4.out.vw.cell 2
  have c3 : W4.cell? ⟨w.heap.size, 3, none⟩ = some (.int .u64 v.gar) := HV4.out.vw.cell 3
  have c4 : W4.cell? ⟨w.heap.size, 4, none⟩ = some (.int .u64 v.iss) := HV4.out.vw.cell 4
  have c5 : W4.cell? ⟨w.heap.size, 5, none⟩ = some (.int .u64 v.isr) := HV4.out.vw.cell 5
  have f3 := HV4.out.vw.free 3
  have f4 := HV4.out.vw.free 4
  have f5 := HV4.out.vw.free 5
  go_upto_region 8 with fail
  obtain ⟨W5, hW5⟩ : ∃ X, ((W4.setCell ⟨w.heap.size, 4, none⟩ (.int .u64 a)).setCell ⟨w.heap.size, 5, none⟩ (.int .u64 g)).setCell ⟨w.heap.size, 3, none⟩ (.int .u64 a) = X := ⟨_, rfl⟩
  have HV5 : Hid (VwIn (vAt (S0 : Int) g a v.mine v.theirs) w W5) := Lib.hid (by
    rw [← hW5]
    have h1 : VwIn ⟨(S0 : Int), a, g, v.gar, a, v.isr, v.mine, v.theirs⟩ w _ := HV4.out.set 4 (.int .u64 a) rfl
    have h2 : VwIn ⟨(S0 : Int), a, g, v.gar, a, g, v.mine, v.theirs⟩ w _ := h1.set 5 (.int .u64 g) rfl
    exact h2.set 3 (.int .u64 a) rfl)
  rw [hW5]
  clear hW5 c1 c2 c3 c4 c5 f3 f4 f5 HV4
  go_wp2
  go_loopw [6, 7] (fun gv tv wr => ∃ k : Nat, tv = .int .i64 (k : Int) ∧ k ≤ 10 ∧ gv = .string (str (vsL (S0 : Int) k)) ∧ Hid (VwIn (vAt (S0 : Int) g a v.mine v.theirs) w wr)) (fun _ tv _ => 10 - (intOf tv).toNat)
  case atStart => exact ⟨0, rfl, by decide, rfl, HV5⟩
  case round =>
    clear HV5
    obtain ⟨k, rfl, hk, rfl, hvr⟩ := hrel
    by_cases hk9 : k ≤ 9
    · have dk : decide ((k : Int) ≤ 9) = true := decide_eq_true (by omega)
      have c2 : wr.cell? ⟨w.heap.size, 2, none⟩ = some (.int .u64 g) := hvr.out.vw.cell 2
      obtain ⟨H, hH⟩ : ∃ H, wr.heap.size = H := ⟨_, rfl⟩
      have HH : Hid (w.heap.size < H) := Lib.hid (by rw [← hH]; exact hvr.out.lt)
      go_upto_region 13 with (go_at_call 36; (with_reducible refine (HS1.out _).mono ?_); rintro e wq ⟨rfl, rfl⟩)
      obtain ⟨W2, hW2⟩ : ∃ X, wr.alloc (.cells #[.int .i64 0, .int .i64 0, .int .i64 0, .int .i64 0, .int .i64 0, .int .i64 0, .int .i64 (k : Int), .bool true, .int .u64 (stepN g 1 : Nat), .int .u64 0, .int .u32 0, .int .i64 0, .int .u8 0, .int .u8 0, .int .u8 0, .slice none 0 0, .string ⟨#[]⟩] 68) = X := ⟨_, rfl⟩
      rw [hW2]
      (try rw [hH])
      have HP2 : Hid (PkOf (vHd (k : Int) (stepN g 1) 0) ⟨#[]⟩ H W2) := Lib.hid (by rw [← hW2, ← hH]; exact PkOf.made _ _ _)
      have HV2 : Hid (VwIn (vAt (S0 : Int) g a v.mine v.theirs) w W2) := Lib.hid (by rw [← hW2]; exact hvr.out.alloc _)
      clear hW2 hH c2 hvr
      have HJK := Lib.hid (HJ.out (k : Int) (by omega) (by omega))
      have HHA := Lib.hid (fun W => refHasAck_any (k : Int) W)
      have hlen := vsL_len (S0 : Int) k
      have hsz : ¬ 9223372036854775807 < (str (vsL (S0 : Int) k)).size + (str [UInt8.ofNat (48 + k)]).size := by
        have e1 : (str (vsL (S0 : Int) k)).size = (vsL (S0 : Int) k).length := rfl
        have e2 : (str [UInt8.ofNat (48 + k)]).size = 1 := rfl
        omega
      cases hb : hasAckB (k : Int)
      · rw [hb] at HHA HJK
        rw [if_neg (by decide)] at HJK
        go_upto_region 15 with (go_at_call 52; (with_reducible refine (HHA.out _).mono ?_); rintro e wq ⟨rfl, rfl⟩)
        obtain ⟨W3, hW3⟩ : ∃ X, W2 = X := ⟨_, rfl⟩
        have HP3 : Hid (PkOf (vHd (k : Int) (stepN g 1) 0) ⟨#[]⟩ H W3) := by rw [← hW3]; exact HP2
        have HV3 : Hid (VwIn (vAt (S0 : Int) g a v.mine v.theirs) w W3) := by rw [← hW3]; exact HV2
        rw [hW3]
        clear hW3 HP2 HV2 HHA
        obtain ⟨J, hJ⟩ : ∃ J, (vAt (S0 : Int) g a v.mine v.theirs).judge (vHd (k : Int) (stepN g 1) 0) = J := ⟨_, rfl⟩
        have HCJ := Lib.hid (HC.out (k : Int) (stepN g 1) 0 J (by have := lv 1; omega) (by omega) hJ)
        rw [hJ] at HJK
        clear hJ
        by_cases hJ1 : J = 1
        · have dJ : decide (J = 1) = true := decide_eq_true hJ1
          have bJ : (J == 1) = true := by rw [beq_iff_eq]; exact hJ1
          have hyes := vsL_yes (S0 : Int) k (by rw [← HJK.out]; exact dJ)
          go_upto_region 16 with (first
            | (refine load_vw rfl _ rfl w.heap.size rfl (vAt (S0 : Int) g a v.mine v.theirs) HV3.out.vw ?_)
            | (refine load_pv rfl _ rfl H rfl (vHd (k : Int) (stepN g 1) 0) _ ⟨#[]⟩ HP3.out ?_)
            | (go_at_call 37; (with_reducible refine (HCJ.out _).mono ?_); rintro e wb ⟨rfl, hbb⟩))
          obtain ⟨j, hj⟩ : ∃ j : Nat, 48 + k = j := ⟨_, rfl⟩
          have hcv := conv_one j (by omega) wb
          have r1 : IntKind.i64.wrap (48 + (k : Int)) = (j : Int) := by rw [IntKind.wrap_i64]; omega
          have r2 : IntKind.u8.wrap (j : Int) = (j : Int) := by rw [IntKind.wrap_u8]; omega
          rw [hj] at hyes hsz
          clear hj
          go_wp2
          refine ⟨⟨k + 1, by go_num, by omega, by rw [hyes, ← str_append], Lib.hid ((HV3.out.below hbb).alloc _)⟩, ?_⟩
          simp [intOf]; omega
        · have dJ : decide (J = 1) = false := decide_eq_false hJ1
          have bJ : (J == 1) = false := by rw [beq_eq_false_iff_ne]; exact hJ1
          have hno := vsL_no (S0 : Int) k (by rw [← HJK.out]; exact dJ)
          go_wp2_with (first
            | (refine load_vw rfl _ rfl w.heap.size rfl (vAt (S0 : Int) g a v.mine v.theirs) HV3.out.vw ?_)
            | (refine load_pv rfl _ rfl H rfl (vHd (k : Int) (stepN g 1) 0) _ ⟨#[]⟩ HP3.out ?_)
            | (go_at_call 37; (with_reducible refine (HCJ.out _).mono ?_); rintro e wb ⟨rfl, hbb⟩))
          refine ⟨⟨k + 1, by go_num, by omega, by rw [hno], Lib.hid (HV3.out.below hbb)⟩, ?_⟩
          simp [intOf]; omega
      · rw [hb] at HHA HJK
        rw [if_pos rfl] at HJK
        have c1 : W2.cell? ⟨w.heap.size, 1, none⟩ = some (.int .u64 a) := HV2.out.vw.cell 1
        have c9 : W2.cell? ⟨H, 9, none⟩ = some (.int .u64 0) := BlkIs.cell HP2.out 9
        have f9 := BlkIs.free HP2.out 9
        go_upto_region 15 with (go_at_call 52; (with_reducible refine (HHA.out _).mono ?_); rintro e wq ⟨rfl, rfl⟩)
        obtain ⟨W3, hW3⟩ : ∃ X, W2.setCell ⟨H, 9, none⟩ (.int .u64 a) = X := ⟨_, rfl⟩
        have HP3 : Hid (PkOf (vHd (k : Int) (stepN g 1) a) ⟨#[]⟩ H W3) := Lib.hid (by rw [← hW3]; exact HP2.out.set 9 _ rfl)
        have HV3 : Hid (VwIn (vAt (S0 : Int) g a v.mine v.theirs) w W3) := Lib.hid (by rw [← hW3]; exact HV2.out.far HH.out _)
        rw [hW3]
        clear hW3 c1 c9 f9 HP2 HV2 HHA
        obtain ⟨J, hJ⟩ : ∃ J, (vAt (S0 : Int) g a v.mine v.theirs).judge (vHd (k : Int) (stepN g 1) a) = J := ⟨_, rfl⟩
        have HCJ := Lib.hid (HC.out (k : Int) (stepN g 1) a J (by have := lv 1; omega) (by omega) hJ)
        rw [hJ] at HJK
        clear hJ
        by_cases hJ1 : J = 1
        · have dJ : decide (J = 1) = true := decide_eq_true hJ1
          have bJ : (J == 1) = true := by rw [beq_iff_eq]; exact hJ1
          have hyes := vsL_yes (S0 : Int) k (by rw [← HJK.out]; exact dJ)
          go_upto_region 16 with (first
            | (refine load_vw rfl _ rfl w.heap.size rfl (vAt (S0 : Int) g a v.mine v.theirs) HV3.out.vw ?_)
            | (refine load_pv rfl _ rfl H rfl (vHd (k : Int) (stepN g 1) a) _ ⟨#[]⟩ HP3.out ?_)
            | (go_at_call 37; (with_reducible refine (HCJ.out _).mono ?_); rintro e wb ⟨rfl, hbb⟩))
          obtain ⟨j, hj⟩ : ∃ j : Nat, 48 + k = j := ⟨_, rfl⟩
          have hcv := conv_one j (by omega) wb
          have r1 : IntKind.i64.wrap (48 + (k : Int)) = (j : Int) := by rw [IntKind.wrap_i64]; omega
          have r2 : IntKind.u8.wrap (j : Int) = (j : Int) := by rw [IntKind.wrap_u8]; omega
          rw [hj] at hyes hsz
          clear hj
          go_wp2
          refine ⟨⟨k + 1, by go_num, by omega, by rw [hyes, ← str_append], Lib.hid ((HV3.out.below hbb).alloc _)⟩, ?_⟩
          simp [intOf]; omega
        · have dJ : decide (J = 1) = false := decide_eq_false hJ1
          have bJ : (J == 1) = false := by rw [beq_eq_false_iff_ne]; exact hJ1
          have hno := vsL_no (S0 : Int) k (by rw [← HJK.out]; exact dJ)
          go_wp2_with (first
            | (refine load_vw rfl _ rfl w.heap.size rfl (vAt (S0 : Int) g a v.mine v.theirs) HV3.out.vw ?_)
            | (refine load_pv rfl _ rfl H rfl (vHd (k : Int) (stepN g 1) a) _ ⟨#[]⟩ HP3.out ?_)
            | (go_at_call 37; (with_reducible refine (HCJ.out _).mono ?_); rintro e wb ⟨rfl, hbb⟩))
          refine ⟨⟨k + 1, by go_num, by omega, by rw [hno], Lib.hid (HV3.out.below hbb)⟩, ?_⟩
          simp [intOf]; omega
    · obtain rfl : k = 10 := by omega
      have dk : decide (((10 : Nat) : Int) ≤ 9) = false := by decide
      have hc : (wr.alloc (.cells #[.string { data := #[] }, .string { data := #[48] }, .string { data := #[49, 55] }, .string { data := #[48, 50, 51, 52, 53, 54, 55, 56, 57] }, .string { data := #[50, 51, 52, 53, 54, 55, 56, 57] }, .string { data := #[50, 51, 52, 53, 54, 55, 56, 57] }, .string { data := #[50, 51, 52, 53, 54, 55, 56, 57] }, .string { data := #[50, 51, 52, 53, 54, 55, 56, 57] }, .string { data := #[] }] 9)).cell? ⟨wr.heap.size, S0, none⟩ = some (.string (str (vsL (S0 : Int) 10))) := by
        have h9 := (BlkIs.new #[.string { data := #[] }, .string { data := #[48] }, .string { data := #[49, 55] }, .string { data := #[48, 50, 51, 52, 53, 54, 55, 56, 57] }, .string { data := #[50, 51, 52, 53, 54, 55, 56, 57] }, .string { data := #[50, 51, 52, 53, 54, 55, 56, 57] }, .string { data := #[50, 51, 52, 53, 54, 55, 56, 57] }, .string { data := #[50, 51, 52, 53, 54, 55, 56, 57] }, .string { data := #[] }] 9 wr).cell S0
        rw [h9]
        have : S0 = 0 ∨ S0 = 1 ∨ S0 = 2 ∨ S0 = 3 ∨ S0 = 4 ∨ S0 = 5 ∨ S0 = 6 ∨ S0 = 7 ∨ S0 = 8 := by omega
        rcases this with rfl | rfl | rfl | rfl | rfl | rfl | rfl | rfl | rfl <;> rfl
      go_wp2
      go_ret
      exact ⟨rfl, hvr.out.bel.alloc (by have := hvr.out.lt; omega) _⟩
end Go.Proofs.YtnhlachoimlhhaaGreatDoor
