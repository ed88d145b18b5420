/-
  What the laws of package valid ask, in numbers.
  A drawn region in two stages, step by step: what reads and calls is taken while S holds; what writes comes behind, and need not keep S.
  Package valid: Answer, of packets without options; a view of a law's own.
  An argument that is a view, opened.
  The law ValidNext, walked (its opening handed in).
-/
import Derived.Test.YtnhlachoimlhhaaGreatDoorVdM
import Derived.Deep.RegionHeld3
import Derived.Test.YtnhlachoimlhhaaGreatDoorVdB
import Derived.OpenShut
import Derived.ChangeSame
namespace Go.Proofs.YtnhlachoimlhhaaGreatDoor
open Go.ChangeShapes Go.WideShapes Go.ChangeAt Go.RowKit
set_option linter.unusedVariables false
set_option linter.unusedSimpArgs false

/-- A packet's head that has a type, long numbers, and nothing else. -/
def vHd (t : Int) (s a : Nat) : Hd := ⟨0, 0, 0, 0, 0, 0, t, true, s, a, 0, 0, 0, 0, 0⟩
/-- A view with what came last as what came first. -/
def vAt (st : Int) (g a : Nat) (mine theirs : Int) : Vw := ⟨st, a, g, a, a, g, mine, theirs⟩
theorem vHd_long (v : Vw) (t : Int) (s a : Nat) : v.long (vHd t s a) = vHd t s a := Vw.long_x rfl
theorem vAt_swl (st : Int) (g a : Nat) (mine theirs : Int) (hg : g < 281474976710656) : (vAt st g a mine theirs).swl = g := swl_at (vAt st g a mine theirs) hg rfl
theorem vAt_awl (st : Int) (g a : Nat) (mine theirs : Int) (ha : a < 281474976710656) : (vAt st g a mine theirs).awl = a := awl_at (vAt st g a mine theirs) ha rfl
theorem vAt_awh (st : Int) (g a : Nat) (mine theirs : Int) (ha : a < 281474976710656) : (vAt st g a mine theirs).awh = a := awh_at (vAt st g a mine theirs) ha
/-- A number so far on is in the window. -/
theorem vAt_seq (st : Int) (g a : Nat) (mine theirs : Int) (hg : g < 281474976710656) (t : Int) (d : Int) (k : Nat) (hd : -1099511637776 ≤ d ∧ d ≤ 1099511637776) :
    (vAt st g a mine theirs).seqB (vHd t (stepN g d) k) = decide (0 ≤ d ∧ d ≤ 3 * winN theirs / 4) := by
  have hw := winN_in theirs
  have e0 := stepN_zero g hg
  unfold Vw.seqB
  rw [vAt_swl st g a mine theirs hg]
  show inB g (stepN g d) (stepN g (3 * winN theirs / 4)) = _
  have h := inB_steps g 0 d (3 * winN theirs / 4) (by omega) hd (by omega) (by omega)
  rw [e0] at h
  exact h
theorem inB_self (a : Nat) : inB a a a = true := by unfold inB; simp
theorem vAt_ack (st : Int) (g a : Nat) (mine theirs : Int) (ha : a < 281474976710656) (t : Int) (s : Nat) : (vAt st g a mine theirs).ackB (vHd t s a) = true := by
  unfold Vw.ackB
  rw [vAt_awl st g a mine theirs ha, vAt_awh st g a mine theirs ha]
  exact inB_self a
theorem vAt_end (st : Int) (g a : Nat) (mine theirs : Int) (hg : g < 281474976710656) (ha : a < 281474976710656) (t : Int) (d : Int) (hd : -1099511637776 ≤ d ∧ d ≤ 1099511637776) :
    (vAt st g a mine theirs).endB (vHd t (stepN g d) a) = decide (1 ≤ d ∧ d ≤ 3 * winN theirs / 4) := by
  have hw := winN_in theirs
  unfold Vw.endB
  rw [vAt_awh st g a mine theirs ha]
  show (inB (stepN g 1) (stepN g d) (stepN g (3 * winN theirs / 4)) && inB a a a) = _
  rw [inB_steps g 1 d (3 * winN theirs / 4) (by omega) hd (by omega) (by omega), inB_self, Bool.and_true]
theorem vAt_less (st : Int) (g a : Nat) (mine theirs : Int) (hg : g < 281474976710656) (d : Int) (hd : -1099511637776 ≤ d ∧ d ≤ 1099511637776) :
    decide (diffI (stepN g d) (vAt st g a mine theirs).swl < 0) = decide (d < 0) := by
  rw [vAt_swl st g a mine theirs hg]
  have h := less_steps g d 0 hd (by omega)
  rw [stepN_zero g hg] at h
  exact h
/-- What comes next is good; what lies behind by so much is not; what lies so far on is asked about. -/
theorem vn_good (g a : Nat) (mine theirs : Int) (hg : g < 281474976710656) (ha : a < 281474976710656) (t : Int) (h2 : 2 ≤ t) (h9 : t ≤ 9) :
    (vAt 5 g a mine theirs).judge (vHd t (stepN g 1) (if t = 2 then 0 else a)) = 1 := by
  have hw := winN_in theirs
  have hs := fun k => vAt_seq 5 g a mine theirs hg t 1 k (by omega)
  have he := vAt_end 5 g a mine theirs hg ha t 1 (by omega)
  have hl := vAt_less 5 g a mine theirs hg 1 (by omega)
  have hk := vAt_ack 5 g a mine theirs ha t (stepN g 1)
  have d1 : decide ((0 : Int) ≤ 1 ∧ 1 ≤ 3 * winN theirs / 4) = true := decide_eq_true (by omega)
  have d2 : decide ((1 : Int) ≤ 1 ∧ 1 ≤ 3 * winN theirs / 4) = true := decide_eq_true (by omega)
  have d3 : decide ((1 : Int) < 0) = false := by decide
  rw [d2] at he
  rw [d3] at hl
  have hf : (vAt 5 g a mine theirs).fitsB (vHd t (stepN g 1) (if t = 2 then 0 else a)) = true := by
    have : t = 2 ∨ t = 3 ∨ t = 4 ∨ t = 5 ∨ t = 6 ∨ t = 7 ∨ t = 8 ∨ t = 9 := by omega
    have hl' : decide (diffI ((stepN g 1 : Nat) : Int) ((vAt 5 g a mine theirs).swl : Int) < 0) = false := hl
    rcases this with rfl | rfl | rfl | rfl | rfl | rfl | rfl | rfl
    all_goals
      unfold Vw.fitsB
      simp [vHd] at hs he hk hl' ⊢
      simp [hs, he, hk, hl', d1]
      try omega
  unfold Vw.judge
  rw [if_neg (by show ¬ ((5 : Int) = 0 ∨ (5 : Int) = 8); decide), if_neg (by show ¬ (5 : Int) = 1; decide), if_neg (by show ¬ (5 : Int) = 2; decide), if_pos hf]
/-! ### Both ends of the window -/
/-! ### Short numbers -/
theorem vn_old (g a : Nat) (mine theirs : Int) (hg : g < 281474976710656) (ha : a < 281474976710656) (t : Int) (h8 : t = 8 ∨ t = 9) (f : Int) (f0 : 0 ≤ f) (f1 : f < 1099511627776) :
    (vAt 5 g a mine theirs).judge (vHd t (stepN g (-1 - f)) a) = 3 := by
  have hl := vAt_less 5 g a mine theirs hg (-1 - f) (by omega)
  have d3 : decide (-1 - f < 0) = true := decide_eq_true (by omega)
  rw [d3] at hl
  have hf : (vAt 5 g a mine theirs).fitsB (vHd t (stepN g (-1 - f)) a) = false := by
    unfold Vw.fitsB
    show (if t = 0 then _ else if t = 2 then _ else if t = 3 ∨ t = 4 then _ else if t = 5 ∨ t = 6 ∨ t = 7 then _ else if t = 8 ∨ t = 9 then (!decide (diffI ((stepN g (-1 - f) : Nat) : Int) ((vAt 5 g a mine theirs).swl : Int) < 0) && _) else _) = false
    rw [if_neg (by omega), if_neg (by omega), if_neg (by omega), if_neg (by omega), if_pos h8, hl]
    rfl
  have hS : isSyncB (vHd t (stepN g (-1 - f)) a).type = true := by
    show (decide (t = 8) || decide (t = 9)) = true
    rcases h8 with rfl | rfl <;> decide
  unfold Vw.judge
  rw [if_neg (by show ¬ ((5 : Int) = 0 ∨ (5 : Int) = 8); decide), if_neg (by show ¬ (5 : Int) = 1; decide), if_neg (by show ¬ (5 : Int) = 2; decide), if_neg (by rw [hf]; decide), if_pos hS]
theorem vn_far (g a : Nat) (mine theirs : Int) (hg : g < 281474976710656) (ha : a < 281474976710656) (t : Int) (h2 : 2 ≤ t) (h7 : t ≤ 7) (k : Nat) (hk : t = 2 ∨ k = a) (f : Int) (f0 : 0 ≤ f) (f1 : f < 1099511627776) :
    (vAt 5 g a mine theirs).judge (vHd t (stepN g (800 + f)) k) = 2 := by
  have hw := winN_in theirs
  have hs := fun k => vAt_seq 5 g a mine theirs hg t (800 + f) k (by omega)
  have he := vAt_end 5 g a mine theirs hg ha t (800 + f) (by omega)
  have d1 : decide ((0 : Int) ≤ 800 + f ∧ 800 + f ≤ 3 * winN theirs / 4) = false := decide_eq_false (by omega)
  have d2 : decide ((1 : Int) ≤ 800 + f ∧ 800 + f ≤ 3 * winN theirs / 4) = false := decide_eq_false (by omega)
  rw [d2] at he
  have hf : (vAt 5 g a mine theirs).fitsB (vHd t (stepN g (800 + f)) k) = false := by
    have : t = 2 ∨ t = 3 ∨ t = 4 ∨ t = 5 ∨ t = 6 ∨ t = 7 := by omega
    unfold Vw.fitsB
    rcases this with rfl | rfl | rfl | rfl | rfl | rfl
    · show (vAt 5 g a mine theirs).seqB _ = false
      rw [hs, d1]
    · show ((vAt 5 g a mine theirs).seqB _ && _) = false
      rw [hs, d1]; rfl
    · show ((vAt 5 g a mine theirs).seqB _ && _) = false
      rw [hs, d1]; rfl
    all_goals
      obtain rfl : k = a := by omega
      exact he
  have hS : isSyncB (vHd t (stepN g (800 + f)) k).type = false := by
    show (decide (t = 8) || decide (t = 9)) = false
    rw [decide_eq_false (by omega), decide_eq_false (by omega)]; rfl
  unfold Vw.judge
  rw [if_neg (by show ¬ ((5 : Int) = 0 ∨ (5 : Int) = 8); decide), if_neg (by show ¬ (5 : Int) = 1; decide), if_neg (by show ¬ (5 : Int) = 2; decide), if_neg (by rw [hf]; decide), if_neg (by rw [hS]; decide)]
end Go.Proofs.YtnhlachoimlhhaaGreatDoor

namespace Go.Proofs.YtnhlachoimlhhaaGreatDoor
set_option linter.unusedVariables false

section
variable {P : Program} {md : Region.Mode} {ops : Array Oper} {Q : Exit → Act → World → Prop} {S : World → Prop} {n : Nat}

/-- Whatever order is picked from here on; behind each of the first n operations S holds. -/
def wpAnyT (P : Program) (md : Region.Mode) (ops : Array Oper) (Q : Exit → Act → World → Prop) (S : World → Prop) (n : Nat) : Nat → Array Bool → Act → World → Prop
  | 0, listed, a, w => Region.ready md ops listed = [] ∧ Q .normal a w
  | fuel + 1, listed, a, w =>
    (Region.ready md ops listed = [] → Q .normal a w) ∧
    ∀ i ∈ Region.ready md ops listed, wpOp P ops Q i (fun a' w' => (i < n → S w') ∧ wpAnyT P md ops Q S n fuel (listed.setIfInBounds i true) a' w') a w

theorem wpAny_of_T : ∀ (fuel : Nat) (listed : Array Bool) (a : Act) (w : World), wpAnyT P md ops Q S n fuel listed a w → wpAny P md ops Q fuel listed a w
  | 0, _, _, _, h => h
  | fuel + 1, _, _, _, h => ⟨h.1, fun i hi => wpOp_mono (fun a' w' h' => wpAny_of_T fuel _ a' w' h'.2) (h.2 i hi)⟩

/-- An operation that may come up now may be taken first, if it yields its value in every world that meets R, and what can come ahead of it keeps R. -/
theorem wpAnyT_first (R : World → Prop) {i : Nat} {oi : Oper} {v : Value} (hi : ops[i]? = some oi) (hsel : ∀ (j : Nat) (o : Oper) cs b, ops[j]? = some o → o.op ≠ .select cs b)
    (hQ : ∀ c a w, Q (.panic c) (a.put oi.dst v) w → Q (.panic c) a w)
    (hRS : ∀ W, R W → i < n → S W) (hT : ∀ j oj, ops[j]? = some oj → (∀ e ∈ oj.after, Region.binds md e = true → e.on ≠ i) → ∀ W, (j < n → S W) → R W) :
    ∀ (fuel : Nat) (listed : Array Bool) (a : Act) (w : World),
      (∀ j oj, ops[j]? = some oj → j ≠ i → listed.getD j true = false → (∀ e ∈ oj.after, Region.binds md e = true → e.on ≠ i) → oi.apart ops oj = true) →
      i ∈ Region.ready md ops listed → YieldsIf P ops R oi v a → R w →
      wpAnyT P md ops Q S n fuel (listed.setIfInBounds i true) (a.put oi.dst v) w → wpAnyT P md ops Q S n (fuel + 1) listed a w := by
  intro fuel
  induction fuel with
  | zero =>
    intro listed a w _ hr hy hR H
    refine ⟨fun h => (by rw [h] at hr; cases hr), fun j hj => ?_⟩
    by_cases hji : j = i
    · subst hji; exact hy.wpOp hi hR ⟨hRS w hR, H⟩
    · have := ready_mono hj hji
      rw [H.1] at this
      cases this
  | succ fuel ih =>
    intro listed a w hfree hr hy hR H
    refine ⟨fun h => (by rw [h] at hr; cases hr), fun j hj => ?_⟩
    by_cases hji : j = i
    · subst hji; exact hy.wpOp hi hR ⟨hRS w hR, H⟩
    · have h1 := H.2 j (ready_mono hj hji)
      obtain ⟨hjun, oj, hoj, hall⟩ := mem_ready.1 hj
      have hnot : ∀ e ∈ oj.after, Region.binds md e = true → e.on ≠ i := fun e he hb heq => by
        have h1 := hall e he hb
        have h0 := (mem_ready.1 hr).1
        rw [heq] at h1
        rcases Nat.lt_or_ge i listed.size with h' | h'
        · simp [h'] at h0 h1; rw [h0] at h1; cases h1
        · simp [Array.getElem?_eq_none h'] at h1
      have h2 := wpOp_putIf hoj (hfree j oj hoj hji hjun hnot) (fun cs b => hsel i oi cs b hi) (fun cs b => hsel j oj cs b hoj) hQ hy h1
      have hfree' : ∀ k ok, ops[k]? = some ok → k ≠ i → (listed.setIfInBounds j true).getD k true = false →
          (∀ e ∈ ok.after, Region.binds md e = true → e.on ≠ i) → oi.apart ops ok = true := fun k ok hk hki hun hno => by
        refine hfree k ok hk hki ?_ hno
        by_cases hjk : j = k
        · subst hjk; exact hjun
        · rw [getD_set_ne true hjk] at hun; exact hun
      refine wpOp_mono (fun a' w' h3 => ⟨h3.2.1, ih (listed.setIfInBounds j true) a' w' hfree' (ready_mono hr (Ne.symm hji)) h3.1 (hT j oj hoj hnot w' h3.2.1) ?_⟩) h2
      rw [Array.setIfInBounds_comm _ _ hji]
      exact h3.2.2

/-- All from n on wait for operation i. -/
def waitsB (md : Region.Mode) (ops : Array Oper) (n i : Nat) : Bool :=
  (List.range ops.size).all fun t => decide (t < n) || (match ops[t]? with | some o => o.after.toList.any (fun e => Region.binds md e && decide (e.on = i)) | none => true)
theorem waits_spec {i : Nat} (hw : waitsB md ops n i = true) (j : Nat) (oj : Oper) (hj : ops[j]? = some oj) (hnot : ∀ e ∈ oj.after, Region.binds md e = true → e.on ≠ i) : j < n := by
  have hlt : j < ops.size := (Array.getElem?_eq_some_iff.1 hj).1
  have h := List.all_eq_true.1 hw j (List.mem_range.2 hlt)
  rw [hj] at h
  simp only [Bool.or_eq_true, decide_eq_true_eq] at h
  rcases h with h | h
  · exact h
  · obtain ⟨e, he, h2⟩ := List.any_eq_true.1 h
    simp only [Bool.and_eq_true, decide_eq_true_eq] at h2
    exact absurd h2.2 (hnot e (by simpa using he) h2.1)

/-- One of the first n, for which all behind them wait: it yields its value wherever S holds. -/
theorem wpAnyT_takeK {i d : Nat} (op : Op) (v : Value) {fuel : Nat} {listed : Array Bool} {a : Act} {w : World}
    (hk : (ops[i]?).map (fun o => (o.dst, o.op, Region.wanted o (yielded ops a.tmps))) = some (some d, op, true))
    (hs : Region.noSelect ops = true) (hf : Region.free md ops listed i = true) (hr : (Region.ready md ops listed).contains i = true) (hw : waitsB md ops n i = true)
    (hQ : ∀ c a w, Q (.panic c) (a.put (some d) v) w → Q (.panic c) a w)
    (hy : ∀ o : Oper, o.op = op → ∀ W, S W → (execOp a.eval o).run P W = .ok (.value v) W) (hS : S w)
    (h : wpAnyT P md ops Q S n fuel (listed.setIfInBounds i true) (a.put (some d) v) w) : wpAnyT P md ops Q S n (fuel + 1) listed a w := by
  cases ho : ops[i]? with
  | none => rw [ho] at hk; cases hk
  | some o =>
    rw [ho] at hk
    injection hk with hk
    injection hk with h1 h2
    injection h2 with h2 h3
    rw [← h1] at h hQ
    exact wpAnyT_first S ho (Region.noSelect_spec hs) hQ (fun _ hW _ => hW) (fun j oj hj hnot W hW => hW (waits_spec hw j oj hj hnot)) fuel listed a w (Region.free_spec ho hf) (by simpa using hr) (.inl ⟨h3, hy o h2⟩) hS h
/-- One of those behind them that looks at no memory. -/
theorem wpAnyT_tailK {i d : Nat} (op : Op) (v : Value) {fuel : Nat} {listed : Array Bool} {a : Act} {w : World}
    (hk : (ops[i]?).map (fun o => (o.dst, o.op, Region.wanted o (yielded ops a.tmps))) = some (some d, op, true))
    (hs : Region.noSelect ops = true) (hf : Region.free md ops listed i = true) (hr : (Region.ready md ops listed).contains i = true) (hn : n ≤ i)
    (hQ : ∀ c a w, Q (.panic c) (a.put (some d) v) w → Q (.panic c) a w)
    (hy : ∀ o : Oper, o.op = op → ∀ W, (execOp a.eval o).run P W = .ok (.value v) W)
    (h : wpAnyT P md ops Q S n fuel (listed.setIfInBounds i true) (a.put (some d) v) w) : wpAnyT P md ops Q S n (fuel + 1) listed a w := by
  cases ho : ops[i]? with
  | none => rw [ho] at hk; cases hk
  | some o =>
    rw [ho] at hk
    injection hk with hk
    injection hk with h1 h2
    injection h2 with h2 h3
    rw [← h1] at h hQ
    exact wpAnyT_first (fun _ => True) ho (Region.noSelect_spec hs) hQ (fun _ _ hi => absurd hi (Nat.not_lt.2 hn)) (fun _ _ _ _ _ _ => trivial) fuel listed a w (Region.free_spec ho hf) (by simpa using hr) (.inl ⟨h3, fun W _ => hy o h2 W⟩) trivial h

def AllReadyT (P : Program) (md : Region.Mode) (ops : Array Oper) (Q : Exit → Act → World → Prop) (S : World → Prop) (n : Nat) (fuel : Nat) (listed : Array Bool) (a : Act) (w : World) (rs : List Nat) : Prop :=
  ∀ i ∈ rs, wpOp P ops Q i (fun a' w' => (i < n → S w') ∧ wpAnyT P md ops Q S n fuel (listed.setIfInBounds i true) a' w') a w
theorem AllReadyT.nil {fuel : Nat} {listed : Array Bool} {a : Act} {w : World} : AllReadyT P md ops Q S n fuel listed a w [] := fun _ h => by cases h
theorem AllReadyT.cons {fuel : Nat} {listed : Array Bool} {a : Act} {w : World} {i : Nat} {o : Oper} {rs : List Nat} (ho : ops[i]? = some o)
    (h : ∀ K' : Act → World → Prop, Shut (∀ a w, (i < n → S w) → wpAnyT P md ops Q S n fuel (listed.setIfInBounds i true) a w → K' a w) → if Region.wanted o (yielded ops a.tmps) = true then Oper.wp P o a w K' Q else K' (a.put o.dst undef) w)
    (hs : AllReadyT P md ops Q S n fuel listed a w rs) : AllReadyT P md ops Q S n fuel listed a w (i :: rs) := fun j hj => by
  rcases List.mem_cons.1 hj with rfl | hj
  · exact wpOp_step ho (fun K' hK => h K' (fun a w hS hW => hK a w ⟨hS, hW⟩))
  · exact hs j hj
theorem wpAnyT_ready {rs : List Nat} {fuel : Nat} {listed : Array Bool} {a : Act} {w : World} (hr : Region.ready md ops listed = rs) (hne : rs ≠ [])
    (h : AllReadyT P md ops Q S n fuel listed a w rs) : wpAnyT P md ops Q S n (fuel + 1) listed a w := ⟨fun h0 => absurd (hr ▸ h0) hne, hr ▸ h⟩
theorem wpAnyT_done {listed : Array Bool} {a : Act} {w : World} (hr : Region.ready md ops listed = []) (h : Q .normal a w) :
    ∀ fuel, wpAnyT P md ops Q S n fuel listed a w
  | 0 => ⟨hr, h⟩
  | _ + 1 => ⟨fun _ => h, by rw [hr]; simp⟩
theorem wp_region_T (S : World → Prop) (n : Nat) {id : Nat} {a : Act} {w : World} (hm : P.follows .mixedOrders = true)
    (h : wpAnyT P .any ops Q S n ops.size (Array.replicate ops.size false) a w.drew) : (Code.region id ops true).wp P Q a w :=
  wp_region_any hm (wpAny_of_T _ _ _ _ h)
end
end Go.Proofs.YtnhlachoimlhhaaGreatDoor

namespace Go.Proofs.YtnhlachoimlhhaaGreatDoor
open Go.ChangeShapes Go.WideShapes Go.ChangeAt Go.RowKit
set_option linter.unusedVariables false
set_option linter.unusedSimpArgs false

/-- A view boxed at the law's beginning. -/
structure VwIn (v : Vw) (w W : World) : Prop where
  vw : BlkIs (vwCells v) 59 w.heap.size W
  bel : Below w.heap.size w W
theorem VwIn.new (v : Vw) (w : World) : ∃ W, w.alloc (.cells #[.int .i64 v.state, .int .u64 v.gss, .int .u64 v.gsr, .int .u64 v.gar, .int .u64 v.iss, .int .u64 v.isr, .int .i64 v.mine, .int .i64 v.theirs] 59) = W ∧ VwIn v w W :=
  ⟨_, rfl, BlkIs.new (vwCells v) _ w, bel_alloc _ _⟩
theorem VwIn.set {v v2 : Vw} {w W : World} (a : VwIn v w W) (i : Nat) (x : Value) (e : (vwCells v).setIfInBounds i x = vwCells v2) : VwIn v2 w (W.setCell ⟨w.heap.size, i, none⟩ x) :=
  ⟨by rw [← e]; exact a.vw.set i x, a.bel.setCell (p := ⟨w.heap.size, i, none⟩) (Nat.le_refl _) _⟩
theorem VwIn.below {v : Vw} {w W W' : World} (a : VwIn v w W) (b : Below W.heap.size W W') : VwIn v w W' := ⟨a.vw.below b, bel_trans a.bel b⟩
theorem VwIn.drew {v : Vw} {w W : World} (a : VwIn v w W) : VwIn v w W.drew := a.below (bel_drewN _ 1)
theorem VwIn.alloc {v : Vw} {w W : World} (a : VwIn v w W) (o : Obj) : VwIn v w (W.alloc o) := a.below (bel_alloc _ _)
theorem VwIn.far {v : Vw} {w W : World} (a : VwIn v w W) {p : Addr} (hp : w.heap.size < p.block) (x : Value) : VwIn v w (W.setCell p x) :=
  ⟨a.vw.far (by omega) x, a.bel.setCell (p := p) (Nat.le_of_lt hp) _⟩
theorem VwIn.grown {v : Vw} {w W W' : World} {g : Nat} (a : VwIn v w W) (hg : W.grownBy W' (some g)) (h : w.heap.size < g) : VwIn v w W' :=
  ⟨a.vw.grown hg (by simp; omega), a.bel.grown hg a.bel.size (fun k hk => by cases hk; omega)⟩
theorem VwIn.lt {v : Vw} {w W : World} (a : VwIn v w W) : w.heap.size < W.heap.size := a.vw.lt
/-- A packet of the law's own, without options. -/
def PkOf (h : Hd) (s : ByteArray) (H : Nat) (W : World) : Prop := BlkIs (pkCells h (.slice none 0 0) s) 68 H W
theorem PkOf.below {h : Hd} {s : ByteArray} {H : Nat} {W W' : World} (a : PkOf h s H W) (b : Below W.heap.size W W') : PkOf h s H W' := BlkIs.below a b
theorem PkOf.set {h h2 : Hd} {s : ByteArray} {H : Nat} {W : World} (a : PkOf h s H W) (i : Nat) (x : Value) (e : (pkCells h (.slice none 0 0) s).setIfInBounds i x = pkCells h2 (.slice none 0 0) s) : PkOf h2 s H (W.setCell ⟨H, i, none⟩ x) := by
  unfold PkOf; rw [← e]; exact BlkIs.set a i x
theorem PkOf.far {h : Hd} {s : ByteArray} {H : Nat} {W : World} (a : PkOf h s H W) {p : Addr} (hp : H ≠ p.block) (x : Value) : PkOf h s H (W.setCell p x) := BlkIs.far a hp x
theorem PkOf.grown {h : Hd} {s : ByteArray} {H g : Nat} {W W' : World} (a : PkOf h s H W) (hg : W.grownBy W' (some g)) (hne : H ≠ g) : PkOf h s H W' := BlkIs.grown a hg (by simp; omega)
def pk00 : Array Value := pkCells Hd.zero (.slice none 0 0) ⟨#[]⟩
theorem PkOf.fresh (h : Hd) (s : ByteArray) (W : World) : PkOf h s W.heap.size ((W.alloc (.cells #[.int .i64 0, .int .i64 0, .int .i64 0, .int .i64 0, .int .i64 0, .int .i64 0, .int .i64 0, .bool false, .int .u64 0, .int .u64 0, .int .u32 0, .int .i64 0, .int .u8 0, .int .u8 0, .int .u8 0, .slice none 0 0, .string ⟨#[]⟩] 68)).drew.setRow W.heap.size (pkCells h (.slice none 0 0) s)) :=
  setRow_heap (W.alloc (.cells pk00 68)).drew _ _ _ _ _ (BlkIs.new pk00 68 W)
theorem PkOf.freshB (h : Hd) (s : ByteArray) (W : World) : Below W.heap.size W ((W.alloc (.cells #[.int .i64 0, .int .i64 0, .int .i64 0, .int .i64 0, .int .i64 0, .int .i64 0, .int .i64 0, .bool false, .int .u64 0, .int .u64 0, .int .u32 0, .int .i64 0, .int .u8 0, .int .u8 0, .int .u8 0, .slice none 0 0, .string ⟨#[]⟩] 68)).drew.setRow W.heap.size (pkCells h (.slice none 0 0) s)) :=
  (bel_trans (bel_alloc W _) (bel_drewN _ 1)).grown (grown_setRow _ _ _) (by show W.heap.size ≤ (W.alloc _).heap.size; simp) (fun k hk => by cases hk; exact Nat.le_refl _)
/-- What an answer tells. -/
def ansN (v : Vw) (g : Hd) : Nat := if g.type = 7 then v.gsr % 281474976710656 else g.seq % 281474976710656
set_option maxHeartbeats 2000000 in
set_option maxRecDepth 100000 in
theorem vdAnswer_nil (v : Vw) (hv : v.Ok) (h : Hd) (hs : h.seq < 18446744073709551616) (ha : h.ack < 18446744073709551616) (s : ByteArray) (hj : v.judge (v.long h) = 2) (w : World) :
    Calls Tryz.prog 38 #[v.val, Pv h (.slice none 0 0) s] w fun e w' => e = .returned (.tuple #[.int .u64 (ansN v (v.long h) : Nat), .bool true]) ∧ Below w.heap.size w w' := by
  have HCK : Hid (∀ W, Calls Tryz.prog 37 #[v.val, Pv h (.slice none 0 0) s] W fun e w' => e = .returned (.int .i64 2) ∧ Below W.heap.size W w') := Lib.hid (fun W => by
    have h9 := vdCheck_nil v hv h hs ha s W
    rw [hj] at h9
    exact h9)
  have HLO := Lib.hid (fun W => vdLong_nil v hv h hs ha s W)
  obtain ⟨hgs, hga⟩ := v.long_ok h hs ha
  generalize v.long h = g at *
  have HO1 : Hid (∀ W, Calls Tryz.prog 82 #[.int .u64 v.gsr] W fun e w' => e = .returned (.int .u64 (v.gsr % 281474976710656 : Nat)) ∧ W = w') := Lib.hid (fun W => seqOf_any v.gsr hv.gsr W)
  have HO2 : Hid (∀ W, Calls Tryz.prog 82 #[.int .u64 g.seq] W fun e w' => e = .returned (.int .u64 (g.seq % 281474976710656 : Nat)) ∧ W = w') := Lib.hid (fun W => seqOf_any g.seq hgs W)
  obtain ⟨J, hJ⟩ : ∃ J, ansN v g = J := ⟨_, rfl⟩
  rw [hJ]
  unfold ansN at hJ
  obtain ⟨P, W, hP, hW, hvw, hpk, hbw⟩ := vp_new v h none 0 0 s w
  have HPK := Lib.hid hpk
  have HVW := Lib.hid hvw
  have HBW := Lib.hid hbw
  have HHN := Lib.hid hd_new
  have hfd := fun q w => field_hd g q s w
  clear hpk hvw hbw hj
  have hpv : ∀ q, Pv h q s = .agg #[.int .i64 h.src, .int .i64 h.dst, .int .i64 h.off, .int .i64 h.cc, .int .i64 h.cs, .int .i64 h.sum, .int .i64 h.type, .bool h.x, .int .u64 h.seq, .int .u64 h.ack, .int .u32 h.service, .int .i64 h.code, .int .u8 h.i0, .int .u8 h.i1, .int .u8 h.i2, q, .string s] := fun q => rfl
  rw [hpv]
  clear hpv
  unfold Vw.val
  go_enter Tryz.func38, Tryz.ntmps38
  go_upto_region 1 with fail
  clear hW hP
  go_upto_region 3 with (first
    | (refine load_vw rfl _ rfl w.heap.size rfl v HVW.out ?_)
    | (refine load_pv rfl _ rfl P rfl h _ s HPK.out ?_)
    | (go_at_call 37; (with_reducible refine (HCK.out _).mono ?_); rintro e w0 ⟨rfl, hb0⟩))
  have HV0 := Lib.hid (HVW.out.below hb0)
  have HP0 : Hid (PkBlk h (.slice none 0 0) s P w0) := Lib.hid (PkBlk.below HPK.out hb0)
  have HB0 := Lib.hid (bel_trans HBW.out hb0)
  clear hb0 HVW HPK HBW HCK
  go_upto_region 4 with (first
    | (refine load_vw rfl _ rfl w.heap.size rfl v HV0.out ?_)
    | (refine load_pv rfl _ rfl P rfl h _ s HP0.out ?_)
    | (go_at_call 56; (with_reducible refine (HLO.out _).mono ?_); rintro e w1 ⟨rfl, hb1⟩; unfold Pv)
    | (refine store_blk rfl _ _ rfl _ Hd.zero g rfl rfl (HHN.out _) ?_; intro W2 hc2 hg2))
  have hbb : Below w.heap.size w W2 := ((bel_trans HB0.out hb1).alloc (by have := HB0.out.size; have := hb1.size; omega) _).grown hg2 (by have := HB0.out.size; have := hb1.size; simp; omega) (fun k hk => by cases hk; have := HB0.out.size; have := hb1.size; omega)
  have hvw : BlkIs (vwCells v) 59 w.heap.size W2 := ((HV0.out.below hb1).alloc _).grown hg2 (by have := HV0.out.lt; have := hb1.size; simp; omega)
  have HHC : Hid (BlkIs g.cellsA 66 w1.heap.size W2) := Lib.hid hc2
  have c2 : W2.cell? ⟨w.heap.size, 2, none⟩ = some (.int .u64 v.gsr) := hvw.cell 2
  have HBB := Lib.hid hbb
  generalize w1.heap.size = C at *
  have c6 : W2.cell? ⟨C, 6, none⟩ = some (.int .i64 g.type) := HHC.out.cell 6
  have c8 : W2.cell? ⟨C, 8, none⟩ = some (.int .u64 g.seq) := HHC.out.cell 8
  clear hfd hc2 hg2 hb1 hbb hvw HV0 HP0 HB0 HHN HLO
  by_cases h7 : g.type = 7
  · have d7 : decide (g.type = 7) = true := decide_eq_true h7
    rw [if_pos h7] at hJ
    subst hJ
    go_wp2_with (go_at_call 82; (with_reducible refine (HO1.out _).mono ?_); rintro e w3 ⟨rfl, rfl⟩)
    go_ret2
    exact ⟨rfl, HBB.out⟩
  · have d7 : decide (g.type = 7) = false := decide_eq_false h7
    rw [if_neg h7] at hJ
    subst hJ
    go_wp2_with (go_at_call 82; (with_reducible refine (HO2.out _).mono ?_); rintro e w3 ⟨rfl, rfl⟩)
    go_ret2
    exact ⟨rfl, HBB.out⟩
end Go.Proofs.YtnhlachoimlhhaaGreatDoor

namespace Go.Proofs.YtnhlachoimlhhaaGreatDoor
open Go.ChangeShapes Go.WideShapes Go.RowKit
set_option linter.unusedVariables false

theorem int_cellV {H : Type} {enc : TypeId × Value → H} {P : Program} {W : World} {base : Nat} {sp : Nat → Bool} {held : Bool} {n : Nat} {t : TypeId} {k : IntKind} {v : Value} {o : Option (DataW H × List MemPlace)}
    (ht : P.underlying t = some (.int k)) (hn : o ≠ none) (h : DataW.trod enc P W base sp held n t [v] = o) : ∃ z, v = .int k z ∧ (Lit.int k z).wf = true := by
  cases o with
  | none => exact absurd rfl hn
  | some x =>
    obtain ⟨z, hz, _, hw⟩ := DataW.trod_int ht h
    simp at hz
    exact ⟨z, hz, hw⟩
theorem some_atV {α : Type} {l : List α} {i : Nat} (h : i < l.length) : l[i]? ≠ none := by
  rw [List.getElem?_eq_getElem h]; exact fun e => by cases e
set_option maxRecDepth 100000 in
set_option maxHeartbeats 2000000 in
theorem open_vcells {H : Type} {enc : TypeId × Value → H} {W : World} {base : Nat} {sp : Nat → Bool} {held : Bool} {fuel : Nat} {cs : List Value} {x : DataW H × List MemPlace}
    (h : DataW.trod enc Tryz.prog W base sp held fuel 59 cs = some x) : ∃ g : Vw, cs = (vwCells g).toList ∧ g.Ok := by
  obtain ⟨ys, n, hn, _, hlen, hyl, hf⟩ := DataW.trod_struct Tryz.underlying59 h
  have hC : Tryz.prog.cellsOf 59 = 8 := by kernel_rfl
  rw [hC] at hlen
  have hy : ys.length = 8 := hyl
  match cs, hlen with
  | [c0, c1, c2, c3, c4, c5, c6, c7], _ =>
    have f0 : DataW.trod enc Tryz.prog W base sp held n 3 [c0] = ys[0]? := hf 0 _ rfl
    have f1 : DataW.trod enc Tryz.prog W base sp held n 55 [c1] = ys[1]? := hf 1 _ rfl
    have f2 : DataW.trod enc Tryz.prog W base sp held n 55 [c2] = ys[2]? := hf 2 _ rfl
    have f3 : DataW.trod enc Tryz.prog W base sp held n 55 [c3] = ys[3]? := hf 3 _ rfl
    have f4 : DataW.trod enc Tryz.prog W base sp held n 55 [c4] = ys[4]? := hf 4 _ rfl
    have f5 : DataW.trod enc Tryz.prog W base sp held n 55 [c5] = ys[5]? := hf 5 _ rfl
    have f6 : DataW.trod enc Tryz.prog W base sp held n 3 [c6] = ys[6]? := hf 6 _ rfl
    have f7 : DataW.trod enc Tryz.prog W base sp held n 3 [c7] = ys[7]? := hf 7 _ rfl
    obtain ⟨z0, rfl, w0⟩ := int_cellV Tryz.underlying3 (some_atV (by omega)) f0
    obtain ⟨z1, rfl, w1⟩ := int_cellV Tryz.underlying55 (some_atV (by omega)) f1
    obtain ⟨z2, rfl, w2⟩ := int_cellV Tryz.underlying55 (some_atV (by omega)) f2
    obtain ⟨z3, rfl, w3⟩ := int_cellV Tryz.underlying55 (some_atV (by omega)) f3
    obtain ⟨z4, rfl, w4⟩ := int_cellV Tryz.underlying55 (some_atV (by omega)) f4
    obtain ⟨z5, rfl, w5⟩ := int_cellV Tryz.underlying55 (some_atV (by omega)) f5
    obtain ⟨z6, rfl, w6⟩ := int_cellV Tryz.underlying3 (some_atV (by omega)) f6
    obtain ⟨z7, rfl, w7⟩ := int_cellV Tryz.underlying3 (some_atV (by omega)) f7
    have b1 := bounds_u64 w1
    have b2 := bounds_u64 w2
    have b3 := bounds_u64 w3
    have b4 := bounds_u64 w4
    have b5 := bounds_u64 w5
    obtain ⟨n1, rfl⟩ := Int.eq_ofNat_of_zero_le b1.1
    obtain ⟨n2, rfl⟩ := Int.eq_ofNat_of_zero_le b2.1
    obtain ⟨n3, rfl⟩ := Int.eq_ofNat_of_zero_le b3.1
    obtain ⟨n4, rfl⟩ := Int.eq_ofNat_of_zero_le b4.1
    obtain ⟨n5, rfl⟩ := Int.eq_ofNat_of_zero_le b5.1
    exact ⟨⟨z0, n1, n2, n3, n4, n5, z6, z7⟩, rfl, ⟨by show n1 < _; omega, by show n2 < _; omega, by show n3 < _; omega, by show n4 < _; omega, by show n5 < _; omega, bounds_i64 w6, bounds_i64 w7⟩⟩

set_option maxRecDepth 100000 in
theorem open_view {H : Type} {enc : TypeId × Value → H} {W : World} {r : Reach} {b0 : Nat} {sp : Nat → Bool} {held : Bool} {v : Value} {d : DataW H} {q : List MemPlace}
    (hv : Value.okWide Tryz.prog W r b0 59 v) (h : DataW.Trod enc Tryz.prog W 0 sp held 59 v d q) : ∃ g : Vw, v = g.val ∧ g.Ok := by
  obtain ⟨cs, rfl, hsz⟩ := okWide_struct Tryz.underlying59 hv
  obtain ⟨fuel, hf⟩ := h
  obtain ⟨g, hg, h1⟩ := open_vcells hf
  refine ⟨g, ?_, h1⟩
  have e : cs.toList = (vwCells g).toList := hg
  rw [Array.toList_inj] at e
  rw [e]; rfl
end Go.Proofs.YtnhlachoimlhhaaGreatDoor

namespace Go.Proofs.YtnhlachoimlhhaaGreatDoor
open Go.ChangeShapes Go.WideShapes Go.ChangeAt Go.RowKit
set_option linter.unusedVariables false
set_option linter.unusedSimpArgs false

set_option maxHeartbeats 16000000 in
set_option maxRecDepth 100000 in
theorem validNext_walk (v : Vw) (hv : v.Ok) (tz : Int) (t1 : -9223372036854775808 ≤ tz) (t2 : tz ≤ 9223372036854775807) (far : Nat) (hf : far < 18446744073709551616) (w : World)
    (hbg : ∀ W, Below w.heap.size w W → Calls Tryz.prog 14 #[] W fun e w' => e = .returned (.bool true) ∧ Below W.heap.size W w') :
    Calls Tryz.prog 5 #[v.val, .int .i64 tz, .int .u64 far] w fun e w' => e = .returned (.bool true) ∧ Below w.heap.size w w' := by
  have HBG := Lib.hid hbg
  clear hbg
  obtain ⟨u0, e0, e01, e02, S0, e03, e04⟩ := mod_at tz 8 (by decide)
  obtain ⟨g, hg⟩ : ∃ g, v.gsr % 281474976710656 = g := ⟨_, rfl⟩
  obtain ⟨a, ha⟩ : ∃ a, v.gss % 281474976710656 = a := ⟨_, rfl⟩
  have hgb : g < 281474976710656 := by omega
  have hab : a < 281474976710656 := by omega
  have HQ1 : Hid (∀ W, Calls Tryz.prog 35 #[.int .u64 v.gsr] W fun e w' => e = .returned (.int .u64 (g : Nat)) ∧ W = w') := Lib.hid (fun W => by rw [← hg]; exact refSeq_any v.gsr hv.gsr W)
  have HQ2 : Hid (∀ W, Calls Tryz.prog 35 #[.int .u64 v.gss] W fun e w' => e = .returned (.int .u64 (a : Nat)) ∧ W = w') := Lib.hid (fun W => by rw [← ha]; exact refSeq_any v.gss hv.gss W)
  obtain ⟨F, hF⟩ : ∃ F, far % 1099511627776 = F := ⟨_, rfl⟩
  have hFb : F < 1099511627776 := by omega
  have x1 : (far : Int) % 1099511627776 = (F : Int) := by omega
  have x2 : (far : Int).tmod 1099511627776 = (F : Int) := by rw [Int.tmod_eq_emod_of_nonneg (by omega)]; exact x1
  have i1 : IntKind.i64.wrap (F : Int) = (F : Int) := by rw [IntKind.wrap_i64]; omega
  have i2 : IntKind.i64.wrap (-1 - (F : Int)) = -1 - (F : Int) := by rw [IntKind.wrap_i64]; omega
  have i3 : IntKind.i64.wrap (800 + (F : Int)) = 800 + (F : Int) := by rw [IntKind.wrap_i64]; omega
  obtain ⟨T, hT⟩ : ∃ T : Int, (S0 : Int) + 2 = T := ⟨_, rfl⟩
  have hT2 : 2 ≤ T := by omega
  have hT9 : T ≤ 9 := by omega
  have s00 : (0 : Int) ≤ (S0 : Int) := by omega
  have lv := stepN_lt g
  have HS1 : Hid (∀ W, Calls Tryz.prog 36 #[.int .u64 g, .int .i64 1] W fun e w' => e = .returned (.int .u64 (stepN g 1 : Nat)) ∧ W = w') := Lib.hid (fun W => by rw [stepN_int]; exact refStep_any g 1 (by omega) (by omega) (by omega) W)
  have HS2 : Hid (∀ W, Calls Tryz.prog 36 #[.int .u64 g, .int .i64 (-1 - (F : Int))] W fun e w' => e = .returned (.int .u64 (stepN g (-1 - (F : Int)) : Nat)) ∧ W = w') := Lib.hid (fun W => by rw [stepN_int]; exact refStep_any g (-1 - (F : Int)) (by omega) (by omega) (by omega) W)
  have HS3 : Hid (∀ W, Calls Tryz.prog 36 #[.int .u64 g, .int .i64 (800 + (F : Int))] W fun e w' => e = .returned (.int .u64 (stepN g (800 + (F : Int)) : Nat)) ∧ W = w') := Lib.hid (fun W => by rw [stepN_int]; exact refStep_any g (800 + (F : Int)) (by omega) (by omega) (by omega) W)
  have hvk : (vAt 5 g a v.mine v.theirs).Ok := ⟨by show a < _; omega, by show g < _; omega, by show a < _; omega, by show a < _; omega, by show g < _; omega, hv.mine, hv.theirs⟩
  have HC : Hid (∀ (t : Int) (s k : Nat) (J : Int), s < 18446744073709551616 → k < 18446744073709551616 → (vAt 5 g a v.mine v.theirs).judge (vHd t s k) = J → ∀ W, Calls Tryz.prog 37 #[(vAt 5 g a v.mine v.theirs).val, Pv (vHd t s k) (.slice none 0 0) ⟨#[]⟩] W fun e w' => e = .returned (.int .i64 J) ∧ Below W.heap.size W w') := Lib.hid (fun t s k J hs hk hj W => by
    have h9 := vdCheck_nil (vAt 5 g a v.mine v.theirs) hvk (vHd t s k) hs hk ⟨#[]⟩ W
    rw [vHd_long, hj] at h9
    exact h9)
  have HA : Hid (∀ (t : Int) (s k : Nat), s < 18446744073709551616 → k < 18446744073709551616 → (vAt 5 g a v.mine v.theirs).judge (vHd t s k) = 2 → ∀ W, Calls Tryz.prog 38 #[(vAt 5 g a v.mine v.theirs).val, Pv (vHd t s k) (.slice none 0 0) ⟨#[]⟩] W fun e w' => e = .returned (.tuple #[.int .u64 (ansN (vAt 5 g a v.mine v.theirs) (vHd t s k) : Nat), .bool true]) ∧ Below W.heap.size W w') := Lib.hid (fun t s k hs hk hj W => by
    have h9 := vdAnswer_nil (vAt 5 g a v.mine v.theirs) hvk (vHd t s k) hs hk ⟨#[]⟩ (by rw [vHd_long]; exact hj) W
    rw [vHd_long] at h9
    exact h9)
  have HG := Lib.hid (vn_good g a v.mine v.theirs hgb hab T hT2 hT9)
  obtain ⟨W0, hW0, hv0⟩ := VwIn.new v w
  have HV0 := Lib.hid hv0
  clear hv0
  unfold Vw.val
  go_enter Tryz.func5, Tryz.ntmps5
  go_upto_region 1 with fail
  clear hW0
  go_upto_region 4 with (go_at_call 14; (with_reducible refine (HBG.out _ HV0.out.bel).mono ?_); rintro e w0 ⟨rfl, hb0⟩)
  have HV1 : Hid (VwIn v w w0) := Lib.hid (HV0.out.below hb0)
  clear hb0 HV0 HBG
  have c0 : w0.cell? ⟨w.heap.size, 0, none⟩ = some (.int .i64 v.state) := HV1.out.vw.cell 0
  have f0 := HV1.out.vw.free 0
  go_upto_region 5 with fail
  obtain ⟨W2, hW2⟩ : ∃ X, w0.setCell ⟨w.heap.size, 0, none⟩ (.int .i64 5) = X := ⟨_, rfl⟩
  have HV2 : Hid (VwIn ⟨5, v.gss, v.gsr, v.gar, v.iss, v.isr, v.mine, v.theirs⟩ w W2) := Lib.hid (by rw [← hW2]; exact HV1.out.set 0 _ rfl)
  rw [hW2]
  clear hW2 c0 f0 HV1
  refine wp_region_T (fun W => VwIn ⟨5, v.gss, v.gsr, v.gar, v.iss, v.isr, v.mine, v.theirs⟩ w W) 6 (by kernel_rfl) ?_
  have hS := HV2.out.drew
  generalize W2.drew = Wd at hS ⊢
  refine wpAnyT_takeK (i := 0) (d := 16) (Op.fieldAddr 59 (Operand.tmp 3) 2) (.pointer (some ⟨w.heap.size, 2, none⟩)) (by kernel_rfl) (by kernel_rfl) (by kernel_rfl) (by kernel_rfl) (by kernel_rfl) (fun _ _ _ h => h) ?_ hS ?_
  · intro o ho W hW
    unfold execOp
    rw [ho]
    go_simp
  try simp only [Act.put, List.setIfInBounds_toArray, List.set_cons_zero, List.set_cons_succ]
  refine wpAnyT_takeK (i := 1) (d := 17) (Op.load 55 (Operand.tmp 16)) (.int .u64 v.gsr) (by kernel_rfl) (by kernel_rfl) (by kernel_rfl) (by kernel_rfl) (by kernel_rfl) (fun _ _ _ h => h) ?_ hS ?_
  · intro o ho W hW
    have c : W.cell? ⟨w.heap.size, 2, none⟩ = some (.int .u64 v.gsr) := (VwIn.vw hW).cell 2
    unfold execOp
    rw [ho]
    go_simp
  try simp only [Act.put, List.setIfInBounds_toArray, List.set_cons_zero, List.set_cons_succ]
  refine wpAnyT_takeK (i := 3) (d := 19) (Op.fieldAddr 59 (Operand.tmp 3) 1) (.pointer (some ⟨w.heap.size, 1, none⟩)) (by kernel_rfl) (by kernel_rfl) (by kernel_rfl) (by kernel_rfl) (by kernel_rfl) (fun _ _ _ h => h) ?_ hS ?_
  · intro o ho W hW
    unfold execOp
    rw [ho]
    go_simp
  try simp only [Act.put, List.setIfInBounds_toArray, List.set_cons_zero, List.set_cons_succ]
  refine wpAnyT_takeK (i := 4) (d := 20) (Op.load 55 (Operand.tmp 19)) (.int .u64 v.gss) (by kernel_rfl) (by kernel_rfl) (by kernel_rfl) (by kernel_rfl) (by kernel_rfl) (fun _ _ _ h => h) ?_ hS ?_
  · intro o ho W hW
    have c : W.cell? ⟨w.heap.size, 1, none⟩ = some (.int .u64 v.gss) := (VwIn.vw hW).cell 1
    unfold execOp
    rw [ho]
    go_simp
  try simp only [Act.put, List.setIfInBounds_toArray, List.set_cons_zero, List.set_cons_succ]
  refine wpAnyT_ready (rs := [2]) (by kernel_rfl) (by simp) ?_
  refine (AllReadyT.cons (o := { dst := some 18, op := Op.call { callee := Callee.value (Operand.func 35), args := #[Operand.tmp 17], argTypes := #[55] }, type := 55, pos := "law.go:452", after := #[{ on := 1, ground := Ground.data }], guard := none }) (by kernel_rfl) (fun K hK => ?_) AllReadyT.nil)
  go_simp
  go_at_call 35
  with_reducible refine (HQ1.out _).mono ?_
  rintro e wq ⟨rfl, rfl⟩
  refine hK.out _ _ (fun _ => hS) ?_
  clear hK K
  try simp only [Act.put, List.setIfInBounds_toArray, List.set_cons_zero, List.set_cons_succ]
  refine wpAnyT_tailK (i := 6) (d := 22) (Op.fieldAddr 59 (Operand.tmp 3) 2) (.pointer (some ⟨w.heap.size, 2, none⟩)) (by kernel_rfl) (by kernel_rfl) (by kernel_rfl) (by kernel_rfl) (by decide) (fun _ _ _ h => h) ?_ ?_
  · intro o ho W
    unfold execOp
    rw [ho]
    go_simp
  try simp only [Act.put, List.setIfInBounds_toArray, List.set_cons_zero, List.set_cons_succ]
  refine wpAnyT_ready (rs := [5]) (by kernel_rfl) (by simp) ?_
  refine (AllReadyT.cons (o := { dst := some 21, op := Op.call { callee := Callee.value (Operand.func 35), args := #[Operand.tmp 20], argTypes := #[55] }, type := 55, pos := "law.go:452", after := #[{ on := 4, ground := Ground.data }, { on := 2, ground := Ground.chain }], guard := none }) (by kernel_rfl) (fun K hK => ?_) AllReadyT.nil)
  go_simp
  go_at_call 35
  with_reducible refine (HQ2.out _).mono ?_
  rintro e wq ⟨rfl, rfl⟩
  refine hK.out _ _ (fun _ => hS) ?_
  clear hK K
  try simp only [Act.put, List.setIfInBounds_toArray, List.set_cons_zero, List.set_cons_succ]
  refine wpAnyT_ready (rs := [7]) (by kernel_rfl) (by simp) ?_
  refine (AllReadyT.cons (o := { dst := none, op := Op.store 55 (Operand.tmp 22) (Operand.tmp 18), type := 0, pos := "law.go:452", after := #[{ on := 6, ground := Ground.data }, { on := 2, ground := Ground.data }, { on := 5, ground := Ground.chain }, { on := 0, ground := Ground.phase }, { on := 1, ground := Ground.phase }, { on := 2, ground := Ground.phase }, { on := 3, ground := Ground.phase }, { on := 4, ground := Ground.phase }, { on := 5, ground := Ground.textOnly Departure.lateStoresUnsure }], guard := none }) (by kernel_rfl) (fun K hK => ?_) AllReadyT.nil)
  have c : (Wd).cell? ⟨w.heap.size, 2, none⟩ = some (.int .u64 v.gsr) := (VwIn.vw hS).cell 2
  have f := (VwIn.vw hS).free 2
  go_simp
  refine hK.out _ _ (fun h => absurd h (by decide)) ?_
  obtain ⟨W3, hY⟩ : ∃ X, (Wd).setCell ⟨w.heap.size, 2, none⟩ (.int .u64 g) = X := ⟨_, rfl⟩
  rw [hY]
  have HV3 : Hid (VwIn ⟨5, v.gss, g, v.gar, v.iss, v.isr, v.mine, v.theirs⟩ w W3) := Lib.hid (by rw [← hY]; exact VwIn.set hS 2 _ rfl)
  clear hY c f
  clear hK K
  try simp only [Act.put, List.setIfInBounds_toArray, List.set_cons_zero, List.set_cons_succ]
  refine wpAnyT_tailK (i := 8) (d := 23) (Op.fieldAddr 59 (Operand.tmp 3) 1) (.pointer (some ⟨w.heap.size, 1, none⟩)) (by kernel_rfl) (by kernel_rfl) (by kernel_rfl) (by kernel_rfl) (by decide) (fun _ _ _ h => h) ?_ ?_
  · intro o ho W
    unfold execOp
    rw [ho]
    go_simp
  try simp only [Act.put, List.setIfInBounds_toArray, List.set_cons_zero, List.set_cons_succ]
  refine wpAnyT_ready (rs := [9]) (by kernel_rfl) (by simp) ?_
  refine (AllReadyT.cons (o := { dst := none, op := Op.store 55 (Operand.tmp 23) (Operand.tmp 21), type := 0, pos := "law.go:452", after := #[{ on := 8, ground := Ground.data }, { on := 5, ground := Ground.data }, { on := 7, ground := Ground.chain }, { on := 0, ground := Ground.phase }, { on := 1, ground := Ground.phase }, { on := 2, ground := Ground.phase }, { on := 3, ground := Ground.phase }, { on := 4, ground := Ground.phase }, { on := 5, ground := Ground.phase }, { on := 6, ground := Ground.phase }, { on := 7, ground := Ground.phase }], guard := none }) (by kernel_rfl) (fun K hK => ?_) AllReadyT.nil)
  have c : (W3).cell? ⟨w.heap.size, 1, none⟩ = some (.int .u64 v.gss) := (VwIn.vw HV3.out).cell 1
  have f := (VwIn.vw HV3.out).free 1
  go_simp
  refine hK.out _ _ (fun h => absurd h (by decide)) ?_
  obtain ⟨W4, hY⟩ : ∃ X, (W3).setCell ⟨w.heap.size, 1, none⟩ (.int .u64 a) = X := ⟨_, rfl⟩
  rw [hY]
  have HV4 : Hid (VwIn ⟨5, a, g, v.gar, v.iss, v.isr, v.mine, v.theirs⟩ w W4) := Lib.hid (by rw [← hY]; exact VwIn.set HV3.out 1 _ rfl)
  clear hY c f
  clear hK K
  try simp only [Act.put, List.setIfInBounds_toArray, List.set_cons_zero, List.set_cons_succ]
  refine wpAnyT_done (by kernel_rfl) ?_ _
  clear hS HV2 HV3 HQ1 HQ2
  have c1 : W4.cell? ⟨w.heap.size, 1, none⟩ = some (.int .u64 a) := HV4.out.vw.cell 1
  have c2 : W4.cell? ⟨w.heap.size, 2, none⟩ = some (.int .u64 g) := HV4.out.vw.cell 2
  have c3 : W4.cell? ⟨w.heap.size, 3, none⟩ = some (.int .u64 v.gar) := HV4.out.vw.cell 3
  have c4 : W4.cell? ⟨w.heap.size, 4, none⟩ = some (.int .u64 v.iss) := HV4.out.vw.cell 4
  have c5 : W4.cell? ⟨w.heap.size, 5, none⟩ = some (.int .u64 v.isr) := HV4.out.vw.cell 5
  have f3 := HV4.out.vw.free 3
  have f4 := HV4.out.vw.free 4
  have f5 := HV4.out.vw.free 5
  go_upto_region 7 with fail
  obtain ⟨W5, hW5⟩ : ∃ X, ((W4.setCell ⟨w.heap.size, 4, none⟩ (.int .u64 a)).setCell ⟨w.heap.size, 5, none⟩ (.int .u64 g)).setCell ⟨w.heap.size, 3, none⟩ (.int .u64 a) = X := ⟨_, rfl⟩
  have HV5 : Hid (VwIn (vAt 5 g a v.mine v.theirs) w W5) := Lib.hid (by
    rw [← hW5]
    have h1 : VwIn ⟨5, a, g, v.gar, a, v.isr, v.mine, v.theirs⟩ w _ := HV4.out.set 4 (.int .u64 a) rfl
    have h2 : VwIn ⟨5, a, g, v.gar, a, g, v.mine, v.theirs⟩ w _ := h1.set 5 (.int .u64 g) rfl
    exact h2.set 3 (.int .u64 a) rfl)
  rw [hW5]
  clear hW5 c1 c2 c3 c4 c5 f3 f4 f5 HV4
  have hc : (W5.alloc (.cells #[.int .i64 2, .int .i64 3, .int .i64 4, .int .i64 5, .int .i64 6, .int .i64 7, .int .i64 8, .int .i64 9] 3)).cell? ⟨W5.heap.size, S0, none⟩ = some (.int .i64 T) := by
    have h9 := (BlkIs.new #[.int .i64 2, .int .i64 3, .int .i64 4, .int .i64 5, .int .i64 6, .int .i64 7, .int .i64 8, .int .i64 9] 3 W5).cell S0
    rw [h9, ← hT]
    have : S0 = 0 ∨ S0 = 1 ∨ S0 = 2 ∨ S0 = 3 ∨ S0 = 4 ∨ S0 = 5 ∨ S0 = 6 ∨ S0 = 7 := by omega
    rcases this with rfl | rfl | rfl | rfl | rfl | rfl | rfl | rfl <;> rfl
  go_upto_region 8 with fail
  obtain ⟨W6, hW6⟩ : ∃ X, W5.alloc (.cells #[.int .i64 2, .int .i64 3, .int .i64 4, .int .i64 5, .int .i64 6, .int .i64 7, .int .i64 8, .int .i64 9] 3) = X := ⟨_, rfl⟩
  rw [hW6]
  have HV6 : Hid (VwIn (vAt 5 g a v.mine v.theirs) w W6) := Lib.hid (by rw [← hW6]; exact HV5.out.alloc _)
  clear hW6 hc HV5
  apply wp_one_end
  case h1 =>
    refine wp_region_T (fun W => VwIn (vAt 5 g a v.mine v.theirs) w W) 10 (by kernel_rfl) ?_
    have hS := HV6.out.drew
    refine wpAnyT_takeK (i := 0) (d := 40) (Op.move (Operand.tmp 1)) (.int .i64 T) (by kernel_rfl) (by kernel_rfl) (by kernel_rfl) (by kernel_rfl) (by kernel_rfl) (fun _ _ _ h => h) ?_ hS ?_
    · intro o ho W hW
      unfold execOp
      rw [ho]
      go_simp
    try simp only [Act.put, List.setIfInBounds_toArray, List.set_cons_zero, List.set_cons_succ]
    refine wpAnyT_takeK (i := 1) (d := 41) (Op.fieldAddr 59 (Operand.tmp 3) 2) (.pointer (some ⟨w.heap.size, 2, none⟩)) (by kernel_rfl) (by kernel_rfl) (by kernel_rfl) (by kernel_rfl) (by kernel_rfl) (fun _ _ _ h => h) ?_ hS ?_
    · intro o ho W hW
      unfold execOp
      rw [ho]
      go_simp
    try simp only [Act.put, List.setIfInBounds_toArray, List.set_cons_zero, List.set_cons_succ]
    refine wpAnyT_takeK (i := 2) (d := 42) (Op.load 55 (Operand.tmp 41)) (.int .u64 g) (by kernel_rfl) (by kernel_rfl) (by kernel_rfl) (by kernel_rfl) (by kernel_rfl) (fun _ _ _ h => h) ?_ hS ?_
    · intro o ho W hW
      have c : W.cell? ⟨w.heap.size, 2, none⟩ = some (.int .u64 g) := (VwIn.vw hW).cell 2
      unfold execOp
      rw [ho]
      go_simp
    try simp only [Act.put, List.setIfInBounds_toArray, List.set_cons_zero, List.set_cons_succ]
    refine wpAnyT_takeK (i := 4) (d := 44) (Op.fieldAddr 59 (Operand.tmp 3) 1) (.pointer (some ⟨w.heap.size, 1, none⟩)) (by kernel_rfl) (by kernel_rfl) (by kernel_rfl) (by kernel_rfl) (by kernel_rfl) (fun _ _ _ h => h) ?_ hS ?_
    · intro o ho W hW
      unfold execOp
      rw [ho]
      go_simp
    try simp only [Act.put, List.setIfInBounds_toArray, List.set_cons_zero, List.set_cons_succ]
    refine wpAnyT_takeK (i := 5) (d := 45) (Op.load 55 (Operand.tmp 44)) (.int .u64 a) (by kernel_rfl) (by kernel_rfl) (by kernel_rfl) (by kernel_rfl) (by kernel_rfl) (fun _ _ _ h => h) ?_ hS ?_
    · intro o ho W hW
      have c : W.cell? ⟨w.heap.size, 1, none⟩ = some (.int .u64 a) := (VwIn.vw hW).cell 1
      unfold execOp
      rw [ho]
      go_simp
    try simp only [Act.put, List.setIfInBounds_toArray, List.set_cons_zero, List.set_cons_succ]
    refine wpAnyT_ready (rs := [3, 8]) (by kernel_rfl) (by simp) ?_
    refine (AllReadyT.cons (o := { dst := some 43, op := Op.call { callee := Callee.value (Operand.func 36), args := #[Operand.tmp 42, Operand.const (Value.int IntKind.i64 1)], argTypes := #[55, 2] }, type := 55, pos := "law.go:455", after := #[{ on := 2, ground := Ground.data }], guard := none }) (by kernel_rfl) (fun K hK => ?_) (AllReadyT.cons (o := { dst := some 8, op := Op.alloc 68, type := 0, pos := "law.go:455", after := #[], guard := none }) (by kernel_rfl) (fun K hK => ?_) AllReadyT.nil))
    · skip
      go_simp
      go_at_call 36
      with_reducible refine (HS1.out _).mono ?_
      rintro e wq ⟨rfl, rfl⟩
      refine hK.out _ _ (fun _ => hS) ?_
      clear hK K
      try simp only [Act.put, List.setIfInBounds_toArray, List.set_cons_zero, List.set_cons_succ]
      refine wpAnyT_takeK (i := 6) (d := 46) (Op.build 66 #[(6, Operand.tmp 40), (7, Operand.const (Value.bool true)), (8, Operand.tmp 43), (9, Operand.tmp 45)]) (.agg #[.int .i64 0, .int .i64 0, .int .i64 0, .int .i64 0, .int .i64 0, .int .i64 0, .int .i64 T, .bool true, .int .u64 (stepN g 1 : Nat), .int .u64 a, .int .u32 0, .int .i64 0, .int .u8 0, .int .u8 0, .int .u8 0]) (by kernel_rfl) (by kernel_rfl) (by kernel_rfl) (by kernel_rfl) (by kernel_rfl) (fun _ _ _ h => h) ?_ hS ?_
      · intro o ho W hW
        unfold execOp
        rw [ho]
        go_simp
        (try rfl)
      try simp only [Act.put, List.setIfInBounds_toArray, List.set_cons_zero, List.set_cons_succ]
      refine wpAnyT_takeK (i := 7) (d := 47) (Op.build 68 #[(0, Operand.tmp 46)]) (Pv (vHd T (stepN g 1) a) (.slice none 0 0) ⟨#[]⟩) (by kernel_rfl) (by kernel_rfl) (by kernel_rfl) (by kernel_rfl) (by kernel_rfl) (fun _ _ _ h => h) ?_ hS ?_
      · intro o ho W hW
        unfold execOp
        rw [ho]
        go_simp
        (try rfl)
      try simp only [Act.put, List.setIfInBounds_toArray, List.set_cons_zero, List.set_cons_succ]
      refine wpAnyT_ready (rs := [8]) (by kernel_rfl) (by simp) ?_
      refine (AllReadyT.cons (o := { dst := some 8, op := Op.alloc 68, type := 0, pos := "law.go:455", after := #[], guard := none }) (by kernel_rfl) (fun K hK => ?_) AllReadyT.nil)
      go_simp
      refine hK.out _ _ (fun _ => VwIn.alloc hS _) ?_
      have hZ := BlkIs.new pk00 68 W6.drew
      replace hS := VwIn.alloc hS (.cells pk00 68)
      clear hK K
      try simp only [Act.put, List.setIfInBounds_toArray, List.set_cons_zero, List.set_cons_succ]
      refine wpAnyT_ready (rs := [9]) (by kernel_rfl) (by simp) ?_
      refine (AllReadyT.cons (o := { dst := none, op := Op.store 68 (Operand.tmp 8) (Operand.tmp 47), type := 0, pos := "law.go:455", after := #[{ on := 8, ground := Ground.data }, { on := 7, ground := Ground.data }, { on := 3, ground := Ground.chain }, { on := 0, ground := Ground.phase }, { on := 1, ground := Ground.phase }, { on := 2, ground := Ground.phase }, { on := 3, ground := Ground.phase }, { on := 4, ground := Ground.phase }, { on := 5, ground := Ground.phase }, { on := 6, ground := Ground.phase }, { on := 7, ground := Ground.phase }, { on := 8, ground := Ground.phase }], guard := none }) (by kernel_rfl) (fun K hK => ?_) AllReadyT.nil)
      rw [if_pos (by rfl)]
      refine wp_store_row 68 _ _ rfl _ (pkCells (vHd T (stepN g 1) a) (.slice none 0 0) ⟨#[]⟩) rfl rfl 68 pk00 hZ infoPk rfl (pkCells_one _ _ _ _ _) ?_
      refine hK.out _ _ (fun _ => VwIn.grown hS (grown_setRow _ _ _) HV6.out.lt) ?_
      clear hK K
      try simp only [Act.put, List.setIfInBounds_toArray, List.set_cons_zero, List.set_cons_succ]
      refine wpAnyT_done (by kernel_rfl) ?_ _
      exact ⟨rfl, rfl⟩
    · skip
      go_simp
      refine hK.out _ _ (fun _ => VwIn.alloc hS _) ?_
      have hZ := BlkIs.new pk00 68 W6.drew
      replace hS := VwIn.alloc hS (.cells pk00 68)
      clear hK K
      try simp only [Act.put, List.setIfInBounds_toArray, List.set_cons_zero, List.set_cons_succ]
      refine wpAnyT_ready (rs := [3]) (by kernel_rfl) (by simp) ?_
      refine (AllReadyT.cons (o := { dst := some 43, op := Op.call { callee := Callee.value (Operand.func 36), args := #[Operand.tmp 42, Operand.const (Value.int IntKind.i64 1)], argTypes := #[55, 2] }, type := 55, pos := "law.go:455", after := #[{ on := 2, ground := Ground.data }], guard := none }) (by kernel_rfl) (fun K hK => ?_) AllReadyT.nil)
      go_simp
      go_at_call 36
      with_reducible refine (HS1.out _).mono ?_
      rintro e wq ⟨rfl, rfl⟩
      refine hK.out _ _ (fun _ => hS) ?_
      clear hK K
      try simp only [Act.put, List.setIfInBounds_toArray, List.set_cons_zero, List.set_cons_succ]
      refine wpAnyT_takeK (i := 6) (d := 46) (Op.build 66 #[(6, Operand.tmp 40), (7, Operand.const (Value.bool true)), (8, Operand.tmp 43), (9, Operand.tmp 45)]) (.agg #[.int .i64 0, .int .i64 0, .int .i64 0, .int .i64 0, .int .i64 0, .int .i64 0, .int .i64 T, .bool true, .int .u64 (stepN g 1 : Nat), .int .u64 a, .int .u32 0, .int .i64 0, .int .u8 0, .int .u8 0, .int .u8 0]) (by kernel_rfl) (by kernel_rfl) (by kernel_rfl) (by kernel_rfl) (by kernel_rfl) (fun _ _ _ h => h) ?_ hS ?_
      · intro o ho W hW
        unfold execOp
        rw [ho]
        go_simp
        (try rfl)
      try simp only [Act.put, List.setIfInBounds_toArray, List.set_cons_zero, List.set_cons_succ]
      refine wpAnyT_takeK (i := 7) (d := 47) (Op.build 68 #[(0, Operand.tmp 46)]) (Pv (vHd T (stepN g 1) a) (.slice none 0 0) ⟨#[]⟩) (by kernel_rfl) (by kernel_rfl) (by kernel_rfl) (by kernel_rfl) (by kernel_rfl) (fun _ _ _ h => h) ?_ hS ?_
      · intro o ho W hW
        unfold execOp
        rw [ho]
        go_simp
        (try rfl)
      try simp only [Act.put, List.setIfInBounds_toArray, List.set_cons_zero, List.set_cons_succ]
      refine wpAnyT_ready (rs := [9]) (by kernel_rfl) (by simp) ?_
      refine (AllReadyT.cons (o := { dst := none, op := Op.store 68 (Operand.tmp 8) (Operand.tmp 47), type := 0, pos := "law.go:455", after := #[{ on := 8, ground := Ground.data }, { on := 7, ground := Ground.data }, { on := 3, ground := Ground.chain }, { on := 0, ground := Ground.phase }, { on := 1, ground := Ground.phase }, { on := 2, ground := Ground.phase }, { on := 3, ground := Ground.phase }, { on := 4, ground := Ground.phase }, { on := 5, ground := Ground.phase }, { on := 6, ground := Ground.phase }, { on := 7, ground := Ground.phase }, { on := 8, ground := Ground.phase }], guard := none }) (by kernel_rfl) (fun K hK => ?_) AllReadyT.nil)
      rw [if_pos (by rfl)]
      refine wp_store_row 68 _ _ rfl _ (pkCells (vHd T (stepN g 1) a) (.slice none 0 0) ⟨#[]⟩) rfl rfl 68 pk00 hZ infoPk rfl (pkCells_one _ _ _ _ _) ?_
      refine hK.out _ _ (fun _ => VwIn.grown hS (grown_setRow _ _ _) HV6.out.lt) ?_
      clear hK K
      try simp only [Act.put, List.setIfInBounds_toArray, List.set_cons_zero, List.set_cons_succ]
      refine wpAnyT_done (by kernel_rfl) ?_ _
      exact ⟨rfl, rfl⟩
  obtain ⟨H, hH⟩ : ∃ H, W6.heap.size = H := ⟨_, rfl⟩
  have hp7 := PkOf.fresh (vHd T (stepN g 1) a) ⟨#[]⟩ W6
  have hv7 := HV6.out.below (PkOf.freshB (vHd T (stepN g 1) a) ⟨#[]⟩ W6)
  have HH : Hid (w.heap.size < H) := Lib.hid (by rw [← hH]; exact HV6.out.lt)
  obtain ⟨W7, hW7⟩ : ∃ X, (W6.alloc (.cells #[.int .i64 0, .int .i64 0, .int .i64 0, .int .i64 0, .int .i64 0, .int .i64 0, .int .i64 0, .bool false, .int .u64 0, .int .u64 0, .int .u32 0, .int .i64 0, .int .u8 0, .int .u8 0, .int .u8 0, .slice none 0 0, .string ⟨#[]⟩] 68)).drew.setRow W6.heap.size (pkCells (vHd T (stepN g 1) a) (.slice none 0 0) ⟨#[]⟩) = X := ⟨_, rfl⟩
  rw [hW7] at hp7 hv7
  rw [hH] at hp7
  (try rw [hW7])
  (try rw [hH])
  have HP7 := Lib.hid hp7
  have HV7 := Lib.hid hv7
  clear hp7 hv7 hW7 hH HV6
  by_cases hTT : T = 2
  · have dT : decide (T = 2) = true := decide_eq_true hTT
    have bT : (T == 2) = true := by rw [beq_iff_eq]; exact hTT
    rw [if_pos hTT] at HG
    have HTT := Lib.hid hTT
    have d8 : decide (8 ≤ T) = false := decide_eq_false (by omega)
    have d7 : decide (T = 7) = false := decide_eq_false (by omega)
    have b7 : (T == 7) = false := by rw [beq_eq_false_iff_ne]; omega
    clear hTT
    have c9 : W7.cell? ⟨H, 9, none⟩ = some (.int .u64 a) := BlkIs.cell HP7.out 9
    have f9 := BlkIs.free HP7.out 9
    go_upto_region 11 with fail
    obtain ⟨W8, hW8⟩ : ∃ X, W7.setCell ⟨H, 9, none⟩ (.int .u64 0) = X := ⟨_, rfl⟩
    have HP8 : Hid (PkOf (vHd T (stepN g 1) 0) ⟨#[]⟩ H W8) := Lib.hid (by rw [← hW8]; exact HP7.out.set 9 _ rfl)
    have HV8 : Hid (VwIn (vAt 5 g a v.mine v.theirs) w W8) := Lib.hid (by rw [← hW8]; exact HV7.out.far HH.out _)
    rw [hW8]
    clear hW8 c9 f9 HP7 HV7
    have hTT := HTT.out
    have HG2 : Hid ((vAt 5 g a v.mine v.theirs).judge (vHd T (stepN g (800 + (F : Int))) 0) = 2) := Lib.hid (vn_far g a v.mine v.theirs hgb hab T hT2 (by omega) 0 (by omega) (F : Int) (by omega) (by omega))
    have hans : ansN (vAt 5 g a v.mine v.theirs) (vHd T (stepN g (800 + (F : Int))) 0) = (stepN g (800 + (F : Int))) := by
      unfold ansN
      show (if T = 7 then g % 281474976710656 else stepN g (800 + (F : Int)) % 281474976710656) = _
      have := lv (800 + (F : Int))
      rw [if_neg (by omega)]
      omega
    have HAN : Hid (∀ W, Calls Tryz.prog 38 #[(vAt 5 g a v.mine v.theirs).val, Pv (vHd T (stepN g (800 + (F : Int))) 0) (.slice none 0 0) ⟨#[]⟩] W fun e w' => e = .returned (.tuple #[.int .u64 ((stepN g (800 + (F : Int))) : Nat), .bool true]) ∧ Below W.heap.size W w') := Lib.hid (fun W => by
      have h9 := HA.out T (stepN g (800 + (F : Int))) 0 (by have := lv (800 + (F : Int)); omega) (by omega) HG2.out W
      rw [hans] at h9
      exact h9)
    clear hans HA
    clear hTT
    go_upto_region 16 with (first
      | (refine load_vw rfl _ rfl w.heap.size rfl (vAt 5 g a v.mine v.theirs) HV8.out.vw ?_)
      | (refine load_pv rfl _ rfl H rfl (vHd T (stepN g 1) 0) _ ⟨#[]⟩ HP8.out ?_)
      | (go_at_call 37; (with_reducible refine (HC.out T (stepN g 1) 0 1 (by have := lv 1; omega) (by omega) HG.out _).mono ?_); rintro e w9 ⟨rfl, hb9⟩))
    have HV9 := Lib.hid (HV8.out.below hb9)
    have HP9 := Lib.hid (HP8.out.below hb9)
    clear hb9 HV8 HP8
    have c2 : w9.cell? ⟨w.heap.size, 2, none⟩ = some (.int .u64 g) := HV9.out.vw.cell 2
    have c8 : w9.cell? ⟨H, 8, none⟩ = some (.int .u64 (stepN g 1)) := BlkIs.cell HP9.out 8
    have f8 := BlkIs.free HP9.out 8
    go_upto_region 17 with (go_at_call 36; (with_reducible refine (HS3.out _).mono ?_); rintro e wq ⟨rfl, rfl⟩)
    obtain ⟨WA, hWA⟩ : ∃ X, w9.setCell ⟨H, 8, none⟩ (.int .u64 (stepN g (800 + (F : Int)) : Nat)) = X := ⟨_, rfl⟩
    have HPA : Hid (PkOf (vHd T (stepN g (800 + (F : Int))) 0) ⟨#[]⟩ H WA) := Lib.hid (by rw [← hWA]; exact HP9.out.set 8 _ rfl)
    have HVA : Hid (VwIn (vAt 5 g a v.mine v.theirs) w WA) := Lib.hid (by rw [← hWA]; exact HV9.out.far HH.out _)
    rw [hWA]
    clear hWA c2 c8 f8 HP9 HV9
    go_upto_region 18 with (first
      | (refine load_vw rfl _ rfl w.heap.size rfl (vAt 5 g a v.mine v.theirs) HVA.out.vw ?_)
      | (refine load_pv rfl _ rfl H rfl (vHd T (stepN g (800 + (F : Int))) 0) _ ⟨#[]⟩ HPA.out ?_)
      | (go_at_call 38; (with_reducible refine (HAN.out _).mono ?_); rintro e wb ⟨rfl, hbb⟩))
    have HVB := Lib.hid (HVA.out.below hbb)
    have HPB := Lib.hid (HPA.out.below hbb)
    clear hbb HVA HPA
    have c2 : wb.cell? ⟨w.heap.size, 2, none⟩ = some (.int .u64 g) := HVB.out.vw.cell 2
    have c8 : wb.cell? ⟨H, 8, none⟩ = some (.int .u64 (stepN g (800 + (F : Int)))) := BlkIs.cell HPB.out 8
    go_wp2_with (first
      | (refine load_vw rfl _ rfl w.heap.size rfl (vAt 5 g a v.mine v.theirs) HVB.out.vw ?_)
      | (refine load_pv rfl _ rfl H rfl (vHd T (stepN g (800 + (F : Int))) 0) _ ⟨#[]⟩ HPB.out ?_)
      | (go_at_call 37; (with_reducible refine (HC.out T (stepN g (800 + (F : Int))) 0 2 (by have := lv (800 + (F : Int)); omega) (by omega) HG2.out _).mono ?_); rintro e wc ⟨rfl, hbc⟩))
    go_ret
    exact ⟨rfl, (HVB.out.below hbc).bel⟩
  · have dT : decide (T = 2) = false := decide_eq_false hTT
    have bT : (T == 2) = false := by rw [beq_eq_false_iff_ne]; exact hTT
    rw [if_neg hTT] at HG
    have HP8 := HP7
    have HV8 := HV7
    obtain ⟨W8, hW8⟩ : ∃ X, W7 = X := ⟨_, rfl⟩
    rw [hW8] at HP8 HV8
    rw [hW8]
    clear hW8 HP7 HV7
    by_cases h8 : 8 ≤ T
    · have d8 : decide (8 ≤ T) = true := decide_eq_true h8
      have HG2 := Lib.hid (vn_old g a v.mine v.theirs hgb hab T (by omega) (F : Int) (by omega) (by omega))
      go_upto_region 14 with (first
        | (refine load_vw rfl _ rfl w.heap.size rfl (vAt 5 g a v.mine v.theirs) HV8.out.vw ?_)
        | (refine load_pv rfl _ rfl H rfl (vHd T (stepN g 1) a) _ ⟨#[]⟩ HP8.out ?_)
        | (go_at_call 37; (with_reducible refine (HC.out T (stepN g 1) a 1 (by have := lv 1; omega) (by omega) HG.out _).mono ?_); rintro e w9 ⟨rfl, hb9⟩))
      have HV9 := Lib.hid (HV8.out.below hb9)
      have HP9 := Lib.hid (HP8.out.below hb9)
      clear hb9 HV8 HP8
      have c2 : w9.cell? ⟨w.heap.size, 2, none⟩ = some (.int .u64 g) := HV9.out.vw.cell 2
      have c8 : w9.cell? ⟨H, 8, none⟩ = some (.int .u64 (stepN g 1)) := BlkIs.cell HP9.out 8
      have f8 := BlkIs.free HP9.out 8
      go_upto_region 15 with (go_at_call 36; (with_reducible refine (HS2.out _).mono ?_); rintro e wq ⟨rfl, rfl⟩)
      obtain ⟨WA, hWA⟩ : ∃ X, w9.setCell ⟨H, 8, none⟩ (.int .u64 (stepN g (-1 - (F : Int)) : Nat)) = X := ⟨_, rfl⟩
      have HPA : Hid (PkOf (vHd T (stepN g (-1 - (F : Int))) a) ⟨#[]⟩ H WA) := Lib.hid (by rw [← hWA]; exact HP9.out.set 8 _ rfl)
      have HVA : Hid (VwIn (vAt 5 g a v.mine v.theirs) w WA) := Lib.hid (by rw [← hWA]; exact HV9.out.far HH.out _)
      rw [hWA]
      clear hWA c2 c8 f8 HP9 HV9
      go_wp2_with (first
        | (refine load_vw rfl _ rfl w.heap.size rfl (vAt 5 g a v.mine v.theirs) HVA.out.vw ?_)
        | (refine load_pv rfl _ rfl H rfl (vHd T (stepN g (-1 - (F : Int))) a) _ ⟨#[]⟩ HPA.out ?_)
        | (go_at_call 37; (with_reducible refine (HC.out T (stepN g (-1 - (F : Int))) a 3 (by have := lv (-1 - (F : Int)); omega) (by omega) HG2.out _).mono ?_); rintro e wb ⟨rfl, hbb⟩))
      go_ret
      exact ⟨rfl, (HVA.out.below hbb).bel⟩
    · have d8 : decide (8 ≤ T) = false := decide_eq_false h8
      by_cases h7 : T = 7
      · have d7 : decide (T = 7) = true := decide_eq_true h7
        have b7 : (T == 7) = true := by rw [beq_iff_eq]; exact h7
        have HG2 : Hid ((vAt 5 g a v.mine v.theirs).judge (vHd T (stepN g (800 + (F : Int))) a) = 2) := Lib.hid (vn_far g a v.mine v.theirs hgb hab T hT2 (by omega) a (by omega) (F : Int) (by omega) (by omega))
        have hans : ansN (vAt 5 g a v.mine v.theirs) (vHd T (stepN g (800 + (F : Int))) a) = g := by
          unfold ansN
          show (if T = 7 then g % 281474976710656 else stepN g (800 + (F : Int)) % 281474976710656) = _
          have := lv (800 + (F : Int))
          rw [if_pos (by omega)]
          omega
        have HAN : Hid (∀ W, Calls Tryz.prog 38 #[(vAt 5 g a v.mine v.theirs).val, Pv (vHd T (stepN g (800 + (F : Int))) a) (.slice none 0 0) ⟨#[]⟩] W fun e w' => e = .returned (.tuple #[.int .u64 (g : Nat), .bool true]) ∧ Below W.heap.size W w') := Lib.hid (fun W => by
          have h9 := HA.out T (stepN g (800 + (F : Int))) a (by have := lv (800 + (F : Int)); omega) (by omega) HG2.out W
          rw [hans] at h9
          exact h9)
        clear hans HA
        clear h7
        go_upto_region 16 with (first
          | (refine load_vw rfl _ rfl w.heap.size rfl (vAt 5 g a v.mine v.theirs) HV8.out.vw ?_)
          | (refine load_pv rfl _ rfl H rfl (vHd T (stepN g 1) a) _ ⟨#[]⟩ HP8.out ?_)
          | (go_at_call 37; (with_reducible refine (HC.out T (stepN g 1) a 1 (by have := lv 1; omega) (by omega) HG.out _).mono ?_); rintro e w9 ⟨rfl, hb9⟩))
        have HV9 := Lib.hid (HV8.out.below hb9)
        have HP9 := Lib.hid (HP8.out.below hb9)
        clear hb9 HV8 HP8
        have c2 : w9.cell? ⟨w.heap.size, 2, none⟩ = some (.int .u64 g) := HV9.out.vw.cell 2
        have c8 : w9.cell? ⟨H, 8, none⟩ = some (.int .u64 (stepN g 1)) := BlkIs.cell HP9.out 8
        have f8 := BlkIs.free HP9.out 8
        go_upto_region 17 with (go_at_call 36; (with_reducible refine (HS3.out _).mono ?_); rintro e wq ⟨rfl, rfl⟩)
        obtain ⟨WA, hWA⟩ : ∃ X, w9.setCell ⟨H, 8, none⟩ (.int .u64 (stepN g (800 + (F : Int)) : Nat)) = X := ⟨_, rfl⟩
        have HPA : Hid (PkOf (vHd T (stepN g (800 + (F : Int))) a) ⟨#[]⟩ H WA) := Lib.hid (by rw [← hWA]; exact HP9.out.set 8 _ rfl)
        have HVA : Hid (VwIn (vAt 5 g a v.mine v.theirs) w WA) := Lib.hid (by rw [← hWA]; exact HV9.out.far HH.out _)
        rw [hWA]
        clear hWA c2 c8 f8 HP9 HV9
        go_upto_region 18 with (first
          | (refine load_vw rfl _ rfl w.heap.size rfl (vAt 5 g a v.mine v.theirs) HVA.out.vw ?_)
          | (refine load_pv rfl _ rfl H rfl (vHd T (stepN g (800 + (F : Int))) a) _ ⟨#[]⟩ HPA.out ?_)
          | (go_at_call 38; (with_reducible refine (HAN.out _).mono ?_); rintro e wb ⟨rfl, hbb⟩))
        have HVB := Lib.hid (HVA.out.below hbb)
        have HPB := Lib.hid (HPA.out.below hbb)
        clear hbb HVA HPA
        have c2 : wb.cell? ⟨w.heap.size, 2, none⟩ = some (.int .u64 g) := HVB.out.vw.cell 2
        have c8 : wb.cell? ⟨H, 8, none⟩ = some (.int .u64 (stepN g (800 + (F : Int)))) := BlkIs.cell HPB.out 8
        go_wp2_with (first
          | (refine load_vw rfl _ rfl w.heap.size rfl (vAt 5 g a v.mine v.theirs) HVB.out.vw ?_)
          | (refine load_pv rfl _ rfl H rfl (vHd T (stepN g (800 + (F : Int))) a) _ ⟨#[]⟩ HPB.out ?_)
          | (go_at_call 37; (with_reducible refine (HC.out T (stepN g (800 + (F : Int))) a 2 (by have := lv (800 + (F : Int)); omega) (by omega) HG2.out _).mono ?_); rintro e wc ⟨rfl, hbc⟩))
        go_ret
        exact ⟨rfl, (HVB.out.below hbc).bel⟩
      · have d7 : decide (T = 7) = false := decide_eq_false h7
        have b7 : (T == 7) = false := by rw [beq_eq_false_iff_ne]; exact h7
        have HG2 : Hid ((vAt 5 g a v.mine v.theirs).judge (vHd T (stepN g (800 + (F : Int))) a) = 2) := Lib.hid (vn_far g a v.mine v.theirs hgb hab T hT2 (by omega) a (by omega) (F : Int) (by omega) (by omega))
        have hans : ansN (vAt 5 g a v.mine v.theirs) (vHd T (stepN g (800 + (F : Int))) a) = (stepN g (800 + (F : Int))) := by
          unfold ansN
          show (if T = 7 then g % 281474976710656 else stepN g (800 + (F : Int)) % 281474976710656) = _
          have := lv (800 + (F : Int))
          rw [if_neg (by omega)]
          omega
        have HAN : Hid (∀ W, Calls Tryz.prog 38 #[(vAt 5 g a v.mine v.theirs).val, Pv (vHd T (stepN g (800 + (F : Int))) a) (.slice none 0 0) ⟨#[]⟩] W fun e w' => e = .returned (.tuple #[.int .u64 ((stepN g (800 + (F : Int))) : Nat), .bool true]) ∧ Below W.heap.size W w') := Lib.hid (fun W => by
          have h9 := HA.out T (stepN g (800 + (F : Int))) a (by have := lv (800 + (F : Int)); omega) (by omega) HG2.out W
          rw [hans] at h9
          exact h9)
        clear hans HA
        go_upto_region 16 with (first
          | (refine load_vw rfl _ rfl w.heap.size rfl (vAt 5 g a v.mine v.theirs) HV8.out.vw ?_)
          | (refine load_pv rfl _ rfl H rfl (vHd T (stepN g 1) a) _ ⟨#[]⟩ HP8.out ?_)
          | (go_at_call 37; (with_reducible refine (HC.out T (stepN g 1) a 1 (by have := lv 1; omega) (by omega) HG.out _).mono ?_); rintro e w9 ⟨rfl, hb9⟩))
        have HV9 := Lib.hid (HV8.out.below hb9)
        have HP9 := Lib.hid (HP8.out.below hb9)
        clear hb9 HV8 HP8
        have c2 : w9.cell? ⟨w.heap.size, 2, none⟩ = some (.int .u64 g) := HV9.out.vw.cell 2
        have c8 : w9.cell? ⟨H, 8, none⟩ = some (.int .u64 (stepN g 1)) := BlkIs.cell HP9.out 8
        have f8 := BlkIs.free HP9.out 8
        go_upto_region 17 with (go_at_call 36; (with_reducible refine (HS3.out _).mono ?_); rintro e wq ⟨rfl, rfl⟩)
        obtain ⟨WA, hWA⟩ : ∃ X, w9.setCell ⟨H, 8, none⟩ (.int .u64 (stepN g (800 + (F : Int)) : Nat)) = X := ⟨_, rfl⟩
        have HPA : Hid (PkOf (vHd T (stepN g (800 + (F : Int))) a) ⟨#[]⟩ H WA) := Lib.hid (by rw [← hWA]; exact HP9.out.set 8 _ rfl)
        have HVA : Hid (VwIn (vAt 5 g a v.mine v.theirs) w WA) := Lib.hid (by rw [← hWA]; exact HV9.out.far HH.out _)
        rw [hWA]
        clear hWA c2 c8 f8 HP9 HV9
        go_upto_region 18 with (first
          | (refine load_vw rfl _ rfl w.heap.size rfl (vAt 5 g a v.mine v.theirs) HVA.out.vw ?_)
          | (refine load_pv rfl _ rfl H rfl (vHd T (stepN g (800 + (F : Int))) a) _ ⟨#[]⟩ HPA.out ?_)
          | (go_at_call 38; (with_reducible refine (HAN.out _).mono ?_); rintro e wb ⟨rfl, hbb⟩))
        have HVB := Lib.hid (HVA.out.below hbb)
        have HPB := Lib.hid (HPA.out.below hbb)
        clear hbb HVA HPA
        have c2 : wb.cell? ⟨w.heap.size, 2, none⟩ = some (.int .u64 g) := HVB.out.vw.cell 2
        have c8 : wb.cell? ⟨H, 8, none⟩ = some (.int .u64 (stepN g (800 + (F : Int)))) := BlkIs.cell HPB.out 8
        go_wp2_with (first
          | (refine load_vw rfl _ rfl w.heap.size rfl (vAt 5 g a v.mine v.theirs) HVB.out.vw ?_)
          | (refine load_pv rfl _ rfl H rfl (vHd T (stepN g (800 + (F : Int))) a) _ ⟨#[]⟩ HPB.out ?_)
          | (go_at_call 37; (with_reducible refine (HC.out T (stepN g (800 + (F : Int))) a 2 (by have := lv (800 + (F : Int)); omega) (by omega) HG2.out _).mono ?_); rintro e wc ⟨rfl, hbc⟩))
        go_ret
        exact ⟨rfl, (HVB.out.below hbc).bel⟩
end Go.Proofs.YtnhlachoimlhhaaGreatDoor
