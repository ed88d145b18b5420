/-
  What the laws of package valid ask, in numbers.
  A drawn region in two stages, step by step: what reads and calls is taken while S holds; what writes comes behind, and need not keep S.
  Package valid: Answer, of packets without options; a view of a law's own.
  The document's side of package valid: Windows; Check of data in an open state.
  An argument that is a view, opened.
  The law ValidWindow, walked (its opening handed in).
-/
import Derived.Test.YtnhlachoimlhhaaGreatDoorVdM
import Derived.Deep.RegionHeld3
import Derived.Test.YtnhlachoimlhhaaGreatDoorVdB
import Derived.BigQuiet
import Derived.OpenShut
import Derived.ChangeSame
namespace Go.Proofs.YtnhlachoimlhhaaGreatDoor
open Go.ChangeShapes Go.WideShapes Go.ChangeAt Go.RowKit
set_option linter.unusedVariables false
set_option linter.unusedSimpArgs false

/-- A packet's head that has a type, long numbers, and nothing else. -/
def vHd (t : Int) (s a : Nat) : Hd := ⟨0, 0, 0, 0, 0, 0, t, true, s, a, 0, 0, 0, 0, 0⟩
theorem vHd_long (v : Vw) (t : Int) (s a : Nat) : v.long (vHd t s a) = vHd t s a := Vw.long_x rfl
/-! ### Both ends of the window -/
def vWd (g a : Nat) (W : Int) : Vw := ⟨5, a, g, a, stepN a (-5000), stepN g (-5000), W, W⟩
theorem vw_seq (g a : Nat) (W : Int) (h1 : 32 ≤ W) (h2 : W ≤ 1000) (hg : g < 281474976710656) (t : Int) (d : Int) (k : Nat) (hd : -1099511637776 ≤ d ∧ d ≤ 1099511637776) :
    (vWd g a W).seqB (vHd t (stepN g d) k) = decide (1 - W / 4 ≤ d ∧ d ≤ 3 * W / 4) := by
  have e : winN W = W := by unfold winN; rw [if_neg (by omega), if_neg (by omega)]
  have hsw : (vWd g a W).swl = stepN g (1 - W / 4) := by
    have h := swl_far (vWd g a W) hg rfl
    rw [h]; show stepN g (1 - winN W / 4) = _; rw [e]
  unfold Vw.seqB
  rw [hsw]
  show inB (stepN g (1 - W / 4)) (stepN g d) (stepN g (3 * winN W / 4)) = _
  rw [e]
  exact inB_steps g (1 - W / 4) d (3 * W / 4) (by omega) hd (by omega) (by omega)
theorem vw_ack (g a : Nat) (W : Int) (h1 : 32 ≤ W) (h2 : W ≤ 1000) (ha : a < 281474976710656) (t : Int) (d : Int) (s : Nat) (hd : -1099511637776 ≤ d ∧ d ≤ 1099511637776) :
    (vWd g a W).ackB (vHd t s (stepN a d)) = decide (1 - W ≤ d ∧ d ≤ 0) := by
  have e : winN W = W := by unfold winN; rw [if_neg (by omega), if_neg (by omega)]
  have haw : (vWd g a W).awl = stepN a (1 - W) := by
    have h := awl_far (vWd g a W) ha rfl
    rw [h]; show stepN a (1 - winN W) = _; rw [e]
  unfold Vw.ackB
  rw [haw, awh_at (vWd g a W) ha]
  show inB (stepN a (1 - W)) (stepN a d) a = _
  have h := inB_steps a (1 - W) d 0 (by omega) hd (by omega) (by omega)
  rw [stepN_zero a ha] at h
  exact h
theorem vw_judge (v : Vw) (h : Hd) (hs : v.state = 5) (ht : h.type = 2 ∨ h.type = 3) : v.judge h = if (v.seqB h && (decide (h.type = 2) || v.ackB h)) = true then 1 else 2 := by
  unfold Vw.judge Vw.fitsB isSyncB
  rw [hs]
  rcases ht with ht | ht
  · rw [ht]; simp
  · rw [ht]; simp
theorem vw_data (g a : Nat) (W : Int) (h1 : 32 ≤ W) (h2 : W ≤ 1000) (hg : g < 281474976710656) (d : Int) (hd : -1099511637776 ≤ d ∧ d ≤ 1099511637776) :
    (vWd g a W).judge (vHd 2 (stepN g d) 0) = if 1 - W / 4 ≤ d ∧ d ≤ 3 * W / 4 then 1 else 2 := by
  rw [vw_judge _ _ rfl (.inl rfl), vw_seq g a W h1 h2 hg 2 d 0 hd]
  simp [vHd]
theorem vw_acks (g a : Nat) (W : Int) (h1 : 32 ≤ W) (h2 : W ≤ 1000) (hg : g < 281474976710656) (ha : a < 281474976710656) (d : Int) (hd : -1099511637776 ≤ d ∧ d ≤ 1099511637776) :
    (vWd g a W).judge (vHd 3 g (stepN a d)) = if 1 - W ≤ d ∧ d ≤ 0 then 1 else 2 := by
  rw [vw_judge _ _ rfl (.inr rfl)]
  have h := vw_seq g a W h1 h2 hg 3 0 (stepN a d) (by omega)
  rw [stepN_zero g hg] at h
  rw [h, vw_ack g a W h1 h2 ha 3 d g hd, decide_eq_true (show 1 - W / 4 ≤ 0 ∧ (0 : Int) ≤ 3 * W / 4 by omega)]
  simp [vHd]
/-! ### Short numbers -/
end Go.Proofs.YtnhlachoimlhhaaGreatDoor

namespace Go.Proofs.YtnhlachoimlhhaaGreatDoor
set_option linter.unusedVariables false

section
variable {P : Program} {md : Region.Mode} {ops : Array Oper} {Q : Exit → Act → World → Prop} {S : World → Prop} {n : Nat}

/-- Whatever order is picked from here on; behind each of the first n operations S holds. -/
def wpAnyT (P : Program) (md : Region.Mode) (ops : Array Oper) (Q : Exit → Act → World → Prop) (S : World → Prop) (n : Nat) : Nat → Array Bool → Act → World → Prop
  | 0, listed, a, w => Region.ready md ops listed = [] ∧ Q .normal a w
  | fuel + 1, listed, a, w =>
    (Region.ready md ops listed = [] → Q .normal a w) ∧
    ∀ i ∈ Region.ready md ops listed, wpOp P ops Q i (fun a' w' => (i < n → S w') ∧ wpAnyT P md ops Q S n fuel (listed.setIfInBounds i true) a' w') a w

theorem wpAny_of_T : ∀ (fuel : Nat) (listed : Array Bool) (a : Act) (w : World), wpAnyT P md ops Q S n fuel listed a w → wpAny P md ops Q fuel listed a w
  | 0, _, _, _, h => h
  | fuel + 1, _, _, _, h => ⟨h.1, fun i hi => wpOp_mono (fun a' w' h' => wpAny_of_T fuel _ a' w' h'.2) (h.2 i hi)⟩

/-- An operation that may come up now may be taken first, if it yields its value in every world that meets R, and what can come ahead of it keeps R. -/
theorem wpAnyT_first (R : World → Prop) {i : Nat} {oi : Oper} {v : Value} (hi : ops[i]? = some oi) (hsel : ∀ (j : Nat) (o : Oper) cs b, ops[j]? = some o → o.op ≠ .select cs b)
    (hQ : ∀ c a w, Q (.panic c) (a.put oi.dst v) w → Q (.panic c) a w)
    (hRS : ∀ W, R W → i < n → S W) (hT : ∀ j oj, ops[j]? = some oj → (∀ e ∈ oj.after, Region.binds md e = true → e.on ≠ i) → ∀ W, (j < n → S W) → R W) :
    ∀ (fuel : Nat) (listed : Array Bool) (a : Act) (w : World),
      (∀ j oj, ops[j]? = some oj → j ≠ i → listed.getD j true = false → (∀ e ∈ oj.after, Region.binds md e = true → e.on ≠ i) → oi.apart ops oj = true) →
      i ∈ Region.ready md ops listed → YieldsIf P ops R oi v a → R w →
      wpAnyT P md ops Q S n fuel (listed.setIfInBounds i true) (a.put oi.dst v) w → wpAnyT P md ops Q S n (fuel + 1) listed a w := by
  intro fuel
  induction fuel with
  | zero =>
    intro listed a w _ hr hy hR H
    refine ⟨fun h => (by rw [h] at hr; cases hr), fun j hj => ?_⟩
    by_cases hji : j = i
    · subst hji; exact hy.wpOp hi hR ⟨hRS w hR, H⟩
    · have := ready_mono hj hji
      rw [H.1] at this
      cases this
  | succ fuel ih =>
    intro listed a w hfree hr hy hR H
    refine ⟨fun h => (by rw [h] at hr; cases hr), fun j hj => ?_⟩
    by_cases hji : j = i
    · subst hji; exact hy.wpOp hi hR ⟨hRS w hR, H⟩
    · have h1 := H.2 j (ready_mono hj hji)
      obtain ⟨hjun, oj, hoj, hall⟩ := mem_ready.1 hj
      have hnot : ∀ e ∈ oj.after, Region.binds md e = true → e.on ≠ i := fun e he hb heq => by
        have h1 := hall e he hb
        have h0 := (mem_ready.1 hr).1
        rw [heq] at h1
        rcases Nat.lt_or_ge i listed.size with h' | h'
        · simp [h'] at h0 h1; rw [h0] at h1; cases h1
        · simp [Array.getElem?_eq_none h'] at h1
      have h2 := wpOp_putIf hoj (hfree j oj hoj hji hjun hnot) (fun cs b => hsel i oi cs b hi) (fun cs b => hsel j oj cs b hoj) hQ hy h1
      have hfree' : ∀ k ok, ops[k]? = some ok → k ≠ i → (listed.setIfInBounds j true).getD k true = false →
          (∀ e ∈ ok.after, Region.binds md e = true → e.on ≠ i) → oi.apart ops ok = true := fun k ok hk hki hun hno => by
        refine hfree k ok hk hki ?_ hno
        by_cases hjk : j = k
        · subst hjk; exact hjun
        · rw [getD_set_ne true hjk] at hun; exact hun
      refine wpOp_mono (fun a' w' h3 => ⟨h3.2.1, ih (listed.setIfInBounds j true) a' w' hfree' (ready_mono hr (Ne.symm hji)) h3.1 (hT j oj hoj hnot w' h3.2.1) ?_⟩) h2
      rw [Array.setIfInBounds_comm _ _ hji]
      exact h3.2.2

/-- All from n on wait for operation i. -/
def waitsB (md : Region.Mode) (ops : Array Oper) (n i : Nat) : Bool :=
  (List.range ops.size).all fun t => decide (t < n) || (match ops[t]? with | some o => o.after.toList.any (fun e => Region.binds md e && decide (e.on = i)) | none => true)
theorem waits_spec {i : Nat} (hw : waitsB md ops n i = true) (j : Nat) (oj : Oper) (hj : ops[j]? = some oj) (hnot : ∀ e ∈ oj.after, Region.binds md e = true → e.on ≠ i) : j < n := by
  have hlt : j < ops.size := (Array.getElem?_eq_some_iff.1 hj).1
  have h := List.all_eq_true.1 hw j (List.mem_range.2 hlt)
  rw [hj] at h
  simp only [Bool.or_eq_true, decide_eq_true_eq] at h
  rcases h with h | h
  · exact h
  · obtain ⟨e, he, h2⟩ := List.any_eq_true.1 h
    simp only [Bool.and_eq_true, decide_eq_true_eq] at h2
    exact absurd h2.2 (hnot e (by simpa using he) h2.1)

/-- One of the first n, for which all behind them wait: it yields its value wherever S holds. -/
theorem wpAnyT_takeK {i d : Nat} (op : Op) (v : Value) {fuel : Nat} {listed : Array Bool} {a : Act} {w : World}
    (hk : (ops[i]?).map (fun o => (o.dst, o.op, Region.wanted o (yielded ops a.tmps))) = some (some d, op, true))
    (hs : Region.noSelect ops = true) (hf : Region.free md ops listed i = true) (hr : (Region.ready md ops listed).contains i = true) (hw : waitsB md ops n i = true)
    (hQ : ∀ c a w, Q (.panic c) (a.put (some d) v) w → Q (.panic c) a w)
    (hy : ∀ o : Oper, o.op = op → ∀ W, S W → (execOp a.eval o).run P W = .ok (.value v) W) (hS : S w)
    (h : wpAnyT P md ops Q S n fuel (listed.setIfInBounds i true) (a.put (some d) v) w) : wpAnyT P md ops Q S n (fuel + 1) listed a w := by
  cases ho : ops[i]? with
  | none => rw [ho] at hk; cases hk
  | some o =>
    rw [ho] at hk
    injection hk with hk
    injection hk with h1 h2
    injection h2 with h2 h3
    rw [← h1] at h hQ
    exact wpAnyT_first S ho (Region.noSelect_spec hs) hQ (fun _ hW _ => hW) (fun j oj hj hnot W hW => hW (waits_spec hw j oj hj hnot)) fuel listed a w (Region.free_spec ho hf) (by simpa using hr) (.inl ⟨h3, hy o h2⟩) hS h
/-- One of those behind them that looks at no memory. -/
theorem wpAnyT_tailK {i d : Nat} (op : Op) (v : Value) {fuel : Nat} {listed : Array Bool} {a : Act} {w : World}
    (hk : (ops[i]?).map (fun o => (o.dst, o.op, Region.wanted o (yielded ops a.tmps))) = some (some d, op, true))
    (hs : Region.noSelect ops = true) (hf : Region.free md ops listed i = true) (hr : (Region.ready md ops listed).contains i = true) (hn : n ≤ i)
    (hQ : ∀ c a w, Q (.panic c) (a.put (some d) v) w → Q (.panic c) a w)
    (hy : ∀ o : Oper, o.op = op → ∀ W, (execOp a.eval o).run P W = .ok (.value v) W)
    (h : wpAnyT P md ops Q S n fuel (listed.setIfInBounds i true) (a.put (some d) v) w) : wpAnyT P md ops Q S n (fuel + 1) listed a w := by
  cases ho : ops[i]? with
  | none => rw [ho] at hk; cases hk
  | some o =>
    rw [ho] at hk
    injection hk with hk
    injection hk with h1 h2
    injection h2 with h2 h3
    rw [← h1] at h hQ
    exact wpAnyT_first (fun _ => True) ho (Region.noSelect_spec hs) hQ (fun _ _ hi => absurd hi (Nat.not_lt.2 hn)) (fun _ _ _ _ _ _ => trivial) fuel listed a w (Region.free_spec ho hf) (by simpa using hr) (.inl ⟨h3, fun W _ => hy o h2 W⟩) trivial h

def AllReadyT (P : Program) (md : Region.Mode) (ops : Array Oper) (Q : Exit → Act → World → Prop) (S : World → Prop) (n : Nat) (fuel : Nat) (listed : Array Bool) (a : Act) (w : World) (rs : List Nat) : Prop :=
  ∀ i ∈ rs, wpOp P ops Q i (fun a' w' => (i < n → S w') ∧ wpAnyT P md ops Q S n fuel (listed.setIfInBounds i true) a' w') a w
theorem AllReadyT.nil {fuel : Nat} {listed : Array Bool} {a : Act} {w : World} : AllReadyT P md ops Q S n fuel listed a w [] := fun _ h => by cases h
theorem AllReadyT.cons {fuel : Nat} {listed : Array Bool} {a : Act} {w : World} {i : Nat} {o : Oper} {rs : List Nat} (ho : ops[i]? = some o)
    (h : ∀ K' : Act → World → Prop, Shut (∀ a w, (i < n → S w) → wpAnyT P md ops Q S n fuel (listed.setIfInBounds i true) a w → K' a w) → if Region.wanted o (yielded ops a.tmps) = true then Oper.wp P o a w K' Q else K' (a.put o.dst undef) w)
    (hs : AllReadyT P md ops Q S n fuel listed a w rs) : AllReadyT P md ops Q S n fuel listed a w (i :: rs) := fun j hj => by
  rcases List.mem_cons.1 hj with rfl | hj
  · exact wpOp_step ho (fun K' hK => h K' (fun a w hS hW => hK a w ⟨hS, hW⟩))
  · exact hs j hj
theorem wpAnyT_ready {rs : List Nat} {fuel : Nat} {listed : Array Bool} {a : Act} {w : World} (hr : Region.ready md ops listed = rs) (hne : rs ≠ [])
    (h : AllReadyT P md ops Q S n fuel listed a w rs) : wpAnyT P md ops Q S n (fuel + 1) listed a w := ⟨fun h0 => absurd (hr ▸ h0) hne, hr ▸ h⟩
theorem wpAnyT_done {listed : Array Bool} {a : Act} {w : World} (hr : Region.ready md ops listed = []) (h : Q .normal a w) :
    ∀ fuel, wpAnyT P md ops Q S n fuel listed a w
  | 0 => ⟨hr, h⟩
  | _ + 1 => ⟨fun _ => h, by rw [hr]; simp⟩
theorem wp_region_T (S : World → Prop) (n : Nat) {id : Nat} {a : Act} {w : World} (hm : P.follows .mixedOrders = true)
    (h : wpAnyT P .any ops Q S n ops.size (Array.replicate ops.size false) a w.drew) : (Code.region id ops true).wp P Q a w :=
  wp_region_any hm (wpAny_of_T _ _ _ _ h)
end
end Go.Proofs.YtnhlachoimlhhaaGreatDoor

namespace Go.Proofs.YtnhlachoimlhhaaGreatDoor
open Go.ChangeShapes Go.WideShapes Go.ChangeAt Go.RowKit
set_option linter.unusedVariables false
set_option linter.unusedSimpArgs false

/-- A view boxed at the law's beginning. -/
structure VwIn (v : Vw) (w W : World) : Prop where
  vw : BlkIs (vwCells v) 59 w.heap.size W
  bel : Below w.heap.size w W
theorem VwIn.new (v : Vw) (w : World) : ∃ W, w.alloc (.cells #[.int .i64 v.state, .int .u64 v.gss, .int .u64 v.gsr, .int .u64 v.gar, .int .u64 v.iss, .int .u64 v.isr, .int .i64 v.mine, .int .i64 v.theirs] 59) = W ∧ VwIn v w W :=
  ⟨_, rfl, BlkIs.new (vwCells v) _ w, bel_alloc _ _⟩
theorem VwIn.set {v v2 : Vw} {w W : World} (a : VwIn v w W) (i : Nat) (x : Value) (e : (vwCells v).setIfInBounds i x = vwCells v2) : VwIn v2 w (W.setCell ⟨w.heap.size, i, none⟩ x) :=
  ⟨by rw [← e]; exact a.vw.set i x, a.bel.setCell (p := ⟨w.heap.size, i, none⟩) (Nat.le_refl _) _⟩
theorem VwIn.below {v : Vw} {w W W' : World} (a : VwIn v w W) (b : Below W.heap.size W W') : VwIn v w W' := ⟨a.vw.below b, bel_trans a.bel b⟩
theorem VwIn.drew {v : Vw} {w W : World} (a : VwIn v w W) : VwIn v w W.drew := a.below (bel_drewN _ 1)
theorem VwIn.alloc {v : Vw} {w W : World} (a : VwIn v w W) (o : Obj) : VwIn v w (W.alloc o) := a.below (bel_alloc _ _)
theorem VwIn.grown {v : Vw} {w W W' : World} {g : Nat} (a : VwIn v w W) (hg : W.grownBy W' (some g)) (h : w.heap.size < g) : VwIn v w W' :=
  ⟨a.vw.grown hg (by simp; omega), a.bel.grown hg a.bel.size (fun k hk => by cases hk; omega)⟩
theorem VwIn.lt {v : Vw} {w W : World} (a : VwIn v w W) : w.heap.size < W.heap.size := a.vw.lt
/-- A packet of the law's own, without options. -/
def PkOf (h : Hd) (s : ByteArray) (H : Nat) (W : World) : Prop := BlkIs (pkCells h (.slice none 0 0) s) 68 H W
theorem PkOf.below {h : Hd} {s : ByteArray} {H : Nat} {W W' : World} (a : PkOf h s H W) (b : Below W.heap.size W W') : PkOf h s H W' := BlkIs.below a b
theorem PkOf.set {h h2 : Hd} {s : ByteArray} {H : Nat} {W : World} (a : PkOf h s H W) (i : Nat) (x : Value) (e : (pkCells h (.slice none 0 0) s).setIfInBounds i x = pkCells h2 (.slice none 0 0) s) : PkOf h2 s H (W.setCell ⟨H, i, none⟩ x) := by
  unfold PkOf; rw [← e]; exact BlkIs.set a i x
theorem PkOf.grown {h : Hd} {s : ByteArray} {H g : Nat} {W W' : World} (a : PkOf h s H W) (hg : W.grownBy W' (some g)) (hne : H ≠ g) : PkOf h s H W' := BlkIs.grown a hg (by simp; omega)
def pk00 : Array Value := pkCells Hd.zero (.slice none 0 0) ⟨#[]⟩
theorem PkOf.fresh (h : Hd) (s : ByteArray) (W : World) : PkOf h s W.heap.size ((W.alloc (.cells #[.int .i64 0, .int .i64 0, .int .i64 0, .int .i64 0, .int .i64 0, .int .i64 0, .int .i64 0, .bool false, .int .u64 0, .int .u64 0, .int .u32 0, .int .i64 0, .int .u8 0, .int .u8 0, .int .u8 0, .slice none 0 0, .string ⟨#[]⟩] 68)).drew.setRow W.heap.size (pkCells h (.slice none 0 0) s)) :=
  setRow_heap (W.alloc (.cells pk00 68)).drew _ _ _ _ _ (BlkIs.new pk00 68 W)
theorem PkOf.freshB (h : Hd) (s : ByteArray) (W : World) : Below W.heap.size W ((W.alloc (.cells #[.int .i64 0, .int .i64 0, .int .i64 0, .int .i64 0, .int .i64 0, .int .i64 0, .int .i64 0, .bool false, .int .u64 0, .int .u64 0, .int .u32 0, .int .i64 0, .int .u8 0, .int .u8 0, .int .u8 0, .slice none 0 0, .string ⟨#[]⟩] 68)).drew.setRow W.heap.size (pkCells h (.slice none 0 0) s)) :=
  (bel_trans (bel_alloc W _) (bel_drewN _ 1)).grown (grown_setRow _ _ _) (by show W.heap.size ≤ (W.alloc _).heap.size; simp) (fun k hk => by cases hk; exact Nat.le_refl _)
theorem PkOf.made (h : Hd) (s : ByteArray) (W : World) : PkOf h s W.heap.size (W.alloc (.cells (pkCells h (.slice none 0 0) s) 68)) := BlkIs.new _ _ W

end Go.Proofs.YtnhlachoimlhhaaGreatDoor

namespace Go.Proofs.YtnhlachoimlhhaaGreatDoor
open Go.ChangeShapes Go.WideShapes Go.ChangeAt Go.RowKit
set_option linter.unusedVariables false
set_option linter.unusedSimpArgs false

theorem refFurther_any (a b : Nat) (ha : a < 18446744073709551616) (hb : b < 18446744073709551616) (w : World) :
    Calls Tryz.prog 121 #[.int .u64 a, .int .u64 b] w fun e w' => e = .returned (.int .u64 (maxN a b : Nat)) ∧ w = w' := by
  have HL := Lib.hid (fun W => refLess_any a b ha hb W)
  have HA : Hid (∀ W, Calls Tryz.prog 35 #[.int .u64 a] W fun e w' => e = .returned (.int .u64 (a % 281474976710656 : Nat)) ∧ W = w') := Lib.hid (fun W => refSeq_any a ha W)
  have HB : Hid (∀ W, Calls Tryz.prog 35 #[.int .u64 b] W fun e w' => e = .returned (.int .u64 (b % 281474976710656 : Nat)) ∧ W = w') := Lib.hid (fun W => refSeq_any b hb W)
  obtain ⟨M, hM⟩ : ∃ M, maxN a b = M := ⟨_, rfl⟩
  rw [hM]
  unfold maxN maxStep at hM
  by_cases h : diffI a b < 0
  · rw [if_pos h] at hM
    rw [decide_eq_true h] at HL
    subst hM
    go_enter Tryz.func121, Tryz.ntmps121
    go_wp2_with (first
      | (go_at_call 94; (with_reducible refine (HL.out _).mono ?_); rintro e w1 ⟨rfl, rfl⟩)
      | (go_at_call 35; (with_reducible refine (HB.out _).mono ?_); rintro e w1 ⟨rfl, rfl⟩))
    go_ret
    exact ⟨rfl, rfl⟩
  · rw [if_neg h] at hM
    rw [decide_eq_false h] at HL
    subst hM
    go_enter Tryz.func121, Tryz.ntmps121
    go_wp2_with (first
      | (go_at_call 94; (with_reducible refine (HL.out _).mono ?_); rintro e w1 ⟨rfl, rfl⟩)
      | (go_at_call 35; (with_reducible refine (HA.out _).mono ?_); rintro e w1 ⟨rfl, rfl⟩))
    go_ret
    exact ⟨rfl, rfl⟩
theorem refIf2_any (b : Bool) (x y : Int) (w : World) :
    Calls Tryz.prog 93 #[.bool b, .int .i64 x, .int .i64 y] w fun e w' => e = .returned (.int .i64 (if b = true then x else y)) ∧ w = w' := by
  cases b
  all_goals
    go_enter Tryz.func93, Tryz.ntmps93
    go_wp2
    go_ret
    exact ⟨rfl, rfl⟩
theorem min_win (n M : Int) (h : min n 1000 = M) : max 32 M = winN n := by subst h; unfold winN; split <;> (try split) <;> omega
set_option maxHeartbeats 4000000 in
set_option maxRecDepth 100000 in
theorem refWindows_any (v : Vw) (hv : v.Ok) (w : World) :
    Calls Tryz.prog 91 #[v.val] w fun e w' => e = .returned (.tuple #[.int .u64 v.swl, .int .u64 v.swh, .int .u64 v.awl, .int .u64 v.awh]) ∧ Below w.heap.size w w' := by
  have hm := winN_in v.mine
  have ht := winN_in v.theirs
  have hm1 := min_win v.mine _ rfl
  have ht1 := min_win v.theirs _ rfl
  have la := stepN_lt v.gsr (1 - winN v.theirs / 4)
  have lb := stepN_lt v.gss (1 - winN v.mine)
  have HA : Hid (∀ W, Calls Tryz.prog 36 #[.int .u64 v.gsr, .int .i64 (1 - winN v.theirs / 4)] W fun e w' => e = .returned (.int .u64 (stepN v.gsr (1 - winN v.theirs / 4) : Nat)) ∧ W = w') := Lib.hid (fun W => by rw [stepN_int]; exact refStep_any v.gsr (1 - winN v.theirs / 4) hv.gsr (by omega) (by omega) W)
  have HB : Hid (∀ W, Calls Tryz.prog 36 #[.int .u64 v.gsr, .int .i64 (3 * winN v.theirs / 4)] W fun e w' => e = .returned (.int .u64 (v.swh : Nat)) ∧ W = w') := Lib.hid (fun W => by unfold Vw.swh; rw [stepN_int]; exact refStep_any v.gsr (3 * winN v.theirs / 4) hv.gsr (by omega) (by omega) W)
  have HC : Hid (∀ W, Calls Tryz.prog 36 #[.int .u64 v.gss, .int .i64 (1 - winN v.mine)] W fun e w' => e = .returned (.int .u64 (stepN v.gss (1 - winN v.mine) : Nat)) ∧ W = w') := Lib.hid (fun W => by rw [stepN_int]; exact refStep_any v.gss (1 - winN v.mine) hv.gss (by omega) (by omega) W)
  have HF1 : Hid (∀ W, Calls Tryz.prog 121 #[.int .u64 (stepN v.gsr (1 - winN v.theirs / 4) : Nat), .int .u64 v.isr] W fun e w' => e = .returned (.int .u64 (v.swl : Nat)) ∧ W = w') := Lib.hid (fun W => refFurther_any _ _ (by omega) hv.isr W)
  have HF2 : Hid (∀ W, Calls Tryz.prog 121 #[.int .u64 (stepN v.gss (1 - winN v.mine) : Nat), .int .u64 v.iss] W fun e w' => e = .returned (.int .u64 (v.awl : Nat)) ∧ W = w') := Lib.hid (fun W => refFurther_any _ _ (by omega) hv.iss W)
  have HO : Hid (∀ W, Calls Tryz.prog 35 #[.int .u64 v.gss] W fun e w' => e = .returned (.int .u64 (v.awh : Nat)) ∧ W = w') := Lib.hid (fun W => refSeq_any v.gss hv.gss W)
  generalize v.swl = sl at *
  generalize v.swh = sh at *
  generalize v.awl = al at *
  generalize v.awh = ah at *
  generalize stepN v.gsr (1 - winN v.theirs / 4) = X1 at *
  generalize stepN v.gss (1 - winN v.mine) = X2 at *
  generalize winN v.theirs = T0 at *
  generalize winN v.mine = M0 at *
  obtain ⟨M1, hM1⟩ : ∃ x, min v.mine 1000 = x := ⟨_, rfl⟩
  obtain ⟨T1, hT1⟩ : ∃ x, min v.theirs 1000 = x := ⟨_, rfl⟩
  rw [hM1] at hm1
  rw [hT1] at ht1
  obtain ⟨W, hW, hvw⟩ := VwIn.new v w
  have HVW := Lib.hid hvw
  have hvd := hvw.drew
  have q1 : IntKind.i64.wrap (T0.tdiv 4) = T0 / 4 := by rw [Int.tdiv_eq_ediv_of_nonneg (by omega), IntKind.wrap_i64]; omega
  have q2 : IntKind.i64.wrap (1 - T0 / 4) = 1 - T0 / 4 := by rw [IntKind.wrap_i64]; omega
  have q3 : IntKind.i64.wrap (1 - M0) = 1 - M0 := by rw [IntKind.wrap_i64]; omega
  have q4 : IntKind.i64.wrap (3 * T0) = 3 * T0 := by rw [IntKind.wrap_i64]; omega
  have q5 : IntKind.i64.wrap ((3 * T0).tdiv 4) = 3 * T0 / 4 := by rw [Int.tdiv_eq_ediv_of_nonneg (by omega), IntKind.wrap_i64]; omega
  clear hvw hvd
  unfold Vw.val
  go_enter Tryz.func91, Tryz.ntmps91
  go_upto_region 1 with fail
  clear hW
  refine wp_region_T (fun X => VwIn v w X) 10 (by kernel_rfl) ?_
  have hS := HVW.out.drew
  generalize W.drew = Wd at hS ⊢
  refine wpAnyT_takeK (i := 0) (d := 8) (Op.fieldAddr 59 (Operand.tmp 1) 6) (.pointer (some ⟨w.heap.size, 6, none⟩)) (by kernel_rfl) (by kernel_rfl) (by kernel_rfl) (by kernel_rfl) (by kernel_rfl) (fun _ _ _ h => h) ?_ hS ?_
  · intro o ho W hW
    unfold execOp
    rw [ho]
    go_simp
  try simp only [Act.put, List.setIfInBounds_toArray, List.set_cons_zero, List.set_cons_succ]
  refine wpAnyT_takeK (i := 1) (d := 9) (Op.load 3 (Operand.tmp 8)) (.int .i64 v.mine) (by kernel_rfl) (by kernel_rfl) (by kernel_rfl) (by kernel_rfl) (by kernel_rfl) (fun _ _ _ h => h) ?_ hS ?_
  · intro o ho W hW
    have c : W.cell? ⟨w.heap.size, 6, none⟩ = some (.int .i64 v.mine) := (VwIn.vw hW).cell 6
    unfold execOp
    rw [ho]
    go_simp
  try simp only [Act.put, List.setIfInBounds_toArray, List.set_cons_zero, List.set_cons_succ]
  refine wpAnyT_takeK (i := 2) (d := 10) (Op.call { callee := Callee.builtin Builtin.min, args := #[Operand.tmp 9, Operand.const (Value.int IntKind.i64 1000)], argTypes := #[3, 3] }) (.int .i64 M1) (by kernel_rfl) (by kernel_rfl) (by kernel_rfl) (by kernel_rfl) (by kernel_rfl) (fun _ _ _ h => h) ?_ hS ?_
  · intro o ho W hW
    unfold execOp
    rw [ho]
    go_simp
    (try (first | rfl | (split <;> omega) | omega))
  try simp only [Act.put, List.setIfInBounds_toArray, List.set_cons_zero, List.set_cons_succ]
  refine wpAnyT_takeK (i := 3) (d := 11) (Op.call { callee := Callee.builtin Builtin.max, args := #[Operand.const (Value.int IntKind.i64 32), Operand.tmp 10], argTypes := #[3, 3] }) (.int .i64 M0) (by kernel_rfl) (by kernel_rfl) (by kernel_rfl) (by kernel_rfl) (by kernel_rfl) (fun _ _ _ h => h) ?_ hS ?_
  · intro o ho W hW
    unfold execOp
    rw [ho]
    go_simp
    (try (first | rfl | (split <;> omega) | omega))
  try simp only [Act.put, List.setIfInBounds_toArray, List.set_cons_zero, List.set_cons_succ]
  refine wpAnyT_takeK (i := 4) (d := 12) (Op.fieldAddr 59 (Operand.tmp 1) 7) (.pointer (some ⟨w.heap.size, 7, none⟩)) (by kernel_rfl) (by kernel_rfl) (by kernel_rfl) (by kernel_rfl) (by kernel_rfl) (fun _ _ _ h => h) ?_ hS ?_
  · intro o ho W hW
    unfold execOp
    rw [ho]
    go_simp
  try simp only [Act.put, List.setIfInBounds_toArray, List.set_cons_zero, List.set_cons_succ]
  refine wpAnyT_takeK (i := 5) (d := 13) (Op.load 3 (Operand.tmp 12)) (.int .i64 v.theirs) (by kernel_rfl) (by kernel_rfl) (by kernel_rfl) (by kernel_rfl) (by kernel_rfl) (fun _ _ _ h => h) ?_ hS ?_
  · intro o ho W hW
    have c : W.cell? ⟨w.heap.size, 7, none⟩ = some (.int .i64 v.theirs) := (VwIn.vw hW).cell 7
    unfold execOp
    rw [ho]
    go_simp
  try simp only [Act.put, List.setIfInBounds_toArray, List.set_cons_zero, List.set_cons_succ]
  refine wpAnyT_takeK (i := 6) (d := 14) (Op.call { callee := Callee.builtin Builtin.min, args := #[Operand.tmp 13, Operand.const (Value.int IntKind.i64 1000)], argTypes := #[3, 3] }) (.int .i64 T1) (by kernel_rfl) (by kernel_rfl) (by kernel_rfl) (by kernel_rfl) (by kernel_rfl) (fun _ _ _ h => h) ?_ hS ?_
  · intro o ho W hW
    unfold execOp
    rw [ho]
    go_simp
    (try (first | rfl | (split <;> omega) | omega))
  try simp only [Act.put, List.setIfInBounds_toArray, List.set_cons_zero, List.set_cons_succ]
  refine wpAnyT_takeK (i := 7) (d := 15) (Op.call { callee := Callee.builtin Builtin.max, args := #[Operand.const (Value.int IntKind.i64 32), Operand.tmp 14], argTypes := #[3, 3] }) (.int .i64 T0) (by kernel_rfl) (by kernel_rfl) (by kernel_rfl) (by kernel_rfl) (by kernel_rfl) (fun _ _ _ h => h) ?_ hS ?_
  · intro o ho W hW
    unfold execOp
    rw [ho]
    go_simp
    (try (first | rfl | (split <;> omega) | omega))
  try simp only [Act.put, List.setIfInBounds_toArray, List.set_cons_zero, List.set_cons_succ]
  refine wpAnyT_takeK (i := 8) (d := 6) (Op.assign (Operand.tmp 11)) (.int .i64 M0) (by kernel_rfl) (by kernel_rfl) (by kernel_rfl) (by kernel_rfl) (by kernel_rfl) (fun _ _ _ h => h) ?_ hS ?_
  · intro o ho W hW
    unfold execOp
    rw [ho]
    go_simp
  try simp only [Act.put, List.setIfInBounds_toArray, List.set_cons_zero, List.set_cons_succ]
  refine wpAnyT_takeK (i := 9) (d := 7) (Op.assign (Operand.tmp 15)) (.int .i64 T0) (by kernel_rfl) (by kernel_rfl) (by kernel_rfl) (by kernel_rfl) (by kernel_rfl) (fun _ _ _ h => h) ?_ hS ?_
  · intro o ho W hW
    unfold execOp
    rw [ho]
    go_simp
  try simp only [Act.put, List.setIfInBounds_toArray, List.set_cons_zero, List.set_cons_succ]
  refine wpAnyT_done (by kernel_rfl) ?_ _
  have hS9 := Lib.hid hS
  clear hS HVW
  go_upto_region 2 with fail
  refine wp_region_T (fun X => VwIn v w X) 30 (by kernel_rfl) ?_
  have hS := hS9.out.drew
  refine wpAnyT_takeK (i := 0) (d := 16) (Op.fieldAddr 59 (Operand.tmp 1) 2) (.pointer (some ⟨w.heap.size, 2, none⟩)) (by kernel_rfl) (by kernel_rfl) (by kernel_rfl) (by kernel_rfl) (by kernel_rfl) (fun _ _ _ h => h) ?_ hS ?_
  · intro o ho W hW
    unfold execOp
    rw [ho]
    go_simp
  try simp only [Act.put, List.setIfInBounds_toArray, List.set_cons_zero, List.set_cons_succ]
  refine wpAnyT_takeK (i := 1) (d := 17) (Op.load 55 (Operand.tmp 16)) (.int .u64 v.gsr) (by kernel_rfl) (by kernel_rfl) (by kernel_rfl) (by kernel_rfl) (by kernel_rfl) (fun _ _ _ h => h) ?_ hS ?_
  · intro o ho W hW
    have c : W.cell? ⟨w.heap.size, 2, none⟩ = some (.int .u64 v.gsr) := (VwIn.vw hW).cell 2
    unfold execOp
    rw [ho]
    go_simp
  try simp only [Act.put, List.setIfInBounds_toArray, List.set_cons_zero, List.set_cons_succ]
  refine wpAnyT_takeK (i := 2) (d := 18) (Op.move (Operand.tmp 7)) (.int .i64 T0) (by kernel_rfl) (by kernel_rfl) (by kernel_rfl) (by kernel_rfl) (by kernel_rfl) (fun _ _ _ h => h) ?_ hS ?_
  · intro o ho W hW
    unfold execOp
    rw [ho]
    go_simp
  try simp only [Act.put, List.setIfInBounds_toArray, List.set_cons_zero, List.set_cons_succ]
  refine wpAnyT_takeK (i := 3) (d := 19) (Op.binOp BinOp.quo 2 (Operand.tmp 18) (Operand.const (Value.int IntKind.i64 4)) 2) (.int .i64 (T0 / 4)) (by kernel_rfl) (by kernel_rfl) (by kernel_rfl) (by kernel_rfl) (by kernel_rfl) (fun _ _ _ h => h) ?_ hS ?_
  · intro o ho W hW
    unfold execOp
    rw [ho]
    go_simp
    (try rfl)
  try simp only [Act.put, List.setIfInBounds_toArray, List.set_cons_zero, List.set_cons_succ]
  refine wpAnyT_takeK (i := 4) (d := 20) (Op.binOp BinOp.sub 2 (Operand.const (Value.int IntKind.i64 1)) (Operand.tmp 19) 2) (.int .i64 (1 - T0 / 4)) (by kernel_rfl) (by kernel_rfl) (by kernel_rfl) (by kernel_rfl) (by kernel_rfl) (fun _ _ _ h => h) ?_ hS ?_
  · intro o ho W hW
    unfold execOp
    rw [ho]
    go_simp
    (try rfl)
  try simp only [Act.put, List.setIfInBounds_toArray, List.set_cons_zero, List.set_cons_succ]
  refine wpAnyT_takeK (i := 6) (d := 22) (Op.fieldAddr 59 (Operand.tmp 1) 5) (.pointer (some ⟨w.heap.size, 5, none⟩)) (by kernel_rfl) (by kernel_rfl) (by kernel_rfl) (by kernel_rfl) (by kernel_rfl) (fun _ _ _ h => h) ?_ hS ?_
  · intro o ho W hW
    unfold execOp
    rw [ho]
    go_simp
  try simp only [Act.put, List.setIfInBounds_toArray, List.set_cons_zero, List.set_cons_succ]
  refine wpAnyT_takeK (i := 7) (d := 23) (Op.load 55 (Operand.tmp 22)) (.int .u64 v.isr) (by kernel_rfl) (by kernel_rfl) (by kernel_rfl) (by kernel_rfl) (by kernel_rfl) (fun _ _ _ h => h) ?_ hS ?_
  · intro o ho W hW
    have c : W.cell? ⟨w.heap.size, 5, none⟩ = some (.int .u64 v.isr) := (VwIn.vw hW).cell 5
    unfold execOp
    rw [ho]
    go_simp
  try simp only [Act.put, List.setIfInBounds_toArray, List.set_cons_zero, List.set_cons_succ]
  refine wpAnyT_takeK (i := 9) (d := 25) (Op.fieldAddr 59 (Operand.tmp 1) 2) (.pointer (some ⟨w.heap.size, 2, none⟩)) (by kernel_rfl) (by kernel_rfl) (by kernel_rfl) (by kernel_rfl) (by kernel_rfl) (fun _ _ _ h => h) ?_ hS ?_
  · intro o ho W hW
    unfold execOp
    rw [ho]
    go_simp
  try simp only [Act.put, List.setIfInBounds_toArray, List.set_cons_zero, List.set_cons_succ]
  refine wpAnyT_takeK (i := 10) (d := 26) (Op.load 55 (Operand.tmp 25)) (.int .u64 v.gsr) (by kernel_rfl) (by kernel_rfl) (by kernel_rfl) (by kernel_rfl) (by kernel_rfl) (fun _ _ _ h => h) ?_ hS ?_
  · intro o ho W hW
    have c : W.cell? ⟨w.heap.size, 2, none⟩ = some (.int .u64 v.gsr) := (VwIn.vw hW).cell 2
    unfold execOp
    rw [ho]
    go_simp
  try simp only [Act.put, List.setIfInBounds_toArray, List.set_cons_zero, List.set_cons_succ]
  refine wpAnyT_takeK (i := 11) (d := 27) (Op.move (Operand.tmp 7)) (.int .i64 T0) (by kernel_rfl) (by kernel_rfl) (by kernel_rfl) (by kernel_rfl) (by kernel_rfl) (fun _ _ _ h => h) ?_ hS ?_
  · intro o ho W hW
    unfold execOp
    rw [ho]
    go_simp
  try simp only [Act.put, List.setIfInBounds_toArray, List.set_cons_zero, List.set_cons_succ]
  refine wpAnyT_takeK (i := 12) (d := 28) (Op.binOp BinOp.mul 2 (Operand.const (Value.int IntKind.i64 3)) (Operand.tmp 27) 2) (.int .i64 (3 * T0)) (by kernel_rfl) (by kernel_rfl) (by kernel_rfl) (by kernel_rfl) (by kernel_rfl) (fun _ _ _ h => h) ?_ hS ?_
  · intro o ho W hW
    unfold execOp
    rw [ho]
    go_simp
    (try rfl)
  try simp only [Act.put, List.setIfInBounds_toArray, List.set_cons_zero, List.set_cons_succ]
  refine wpAnyT_takeK (i := 13) (d := 29) (Op.binOp BinOp.quo 2 (Operand.tmp 28) (Operand.const (Value.int IntKind.i64 4)) 2) (.int .i64 (3 * T0 / 4)) (by kernel_rfl) (by kernel_rfl) (by kernel_rfl) (by kernel_rfl) (by kernel_rfl) (fun _ _ _ h => h) ?_ hS ?_
  · intro o ho W hW
    unfold execOp
    rw [ho]
    go_simp
    (try rfl)
  try simp only [Act.put, List.setIfInBounds_toArray, List.set_cons_zero, List.set_cons_succ]
  refine wpAnyT_takeK (i := 15) (d := 31) (Op.fieldAddr 59 (Operand.tmp 1) 1) (.pointer (some ⟨w.heap.size, 1, none⟩)) (by kernel_rfl) (by kernel_rfl) (by kernel_rfl) (by kernel_rfl) (by kernel_rfl) (fun _ _ _ h => h) ?_ hS ?_
  · intro o ho W hW
    unfold execOp
    rw [ho]
    go_simp
  try simp only [Act.put, List.setIfInBounds_toArray, List.set_cons_zero, List.set_cons_succ]
  refine wpAnyT_takeK (i := 16) (d := 32) (Op.load 55 (Operand.tmp 31)) (.int .u64 v.gss) (by kernel_rfl) (by kernel_rfl) (by kernel_rfl) (by kernel_rfl) (by kernel_rfl) (fun _ _ _ h => h) ?_ hS ?_
  · intro o ho W hW
    have c : W.cell? ⟨w.heap.size, 1, none⟩ = some (.int .u64 v.gss) := (VwIn.vw hW).cell 1
    unfold execOp
    rw [ho]
    go_simp
  try simp only [Act.put, List.setIfInBounds_toArray, List.set_cons_zero, List.set_cons_succ]
  refine wpAnyT_takeK (i := 17) (d := 33) (Op.move (Operand.tmp 6)) (.int .i64 M0) (by kernel_rfl) (by kernel_rfl) (by kernel_rfl) (by kernel_rfl) (by kernel_rfl) (fun _ _ _ h => h) ?_ hS ?_
  · intro o ho W hW
    unfold execOp
    rw [ho]
    go_simp
  try simp only [Act.put, List.setIfInBounds_toArray, List.set_cons_zero, List.set_cons_succ]
  refine wpAnyT_takeK (i := 18) (d := 34) (Op.binOp BinOp.sub 2 (Operand.const (Value.int IntKind.i64 1)) (Operand.tmp 33) 2) (.int .i64 (1 - M0)) (by kernel_rfl) (by kernel_rfl) (by kernel_rfl) (by kernel_rfl) (by kernel_rfl) (fun _ _ _ h => h) ?_ hS ?_
  · intro o ho W hW
    unfold execOp
    rw [ho]
    go_simp
    (try rfl)
  try simp only [Act.put, List.setIfInBounds_toArray, List.set_cons_zero, List.set_cons_succ]
  refine wpAnyT_takeK (i := 20) (d := 36) (Op.fieldAddr 59 (Operand.tmp 1) 4) (.pointer (some ⟨w.heap.size, 4, none⟩)) (by kernel_rfl) (by kernel_rfl) (by kernel_rfl) (by kernel_rfl) (by kernel_rfl) (fun _ _ _ h => h) ?_ hS ?_
  · intro o ho W hW
    unfold execOp
    rw [ho]
    go_simp
  try simp only [Act.put, List.setIfInBounds_toArray, List.set_cons_zero, List.set_cons_succ]
  refine wpAnyT_takeK (i := 21) (d := 37) (Op.load 55 (Operand.tmp 36)) (.int .u64 v.iss) (by kernel_rfl) (by kernel_rfl) (by kernel_rfl) (by kernel_rfl) (by kernel_rfl) (fun _ _ _ h => h) ?_ hS ?_
  · intro o ho W hW
    have c : W.cell? ⟨w.heap.size, 4, none⟩ = some (.int .u64 v.iss) := (VwIn.vw hW).cell 4
    unfold execOp
    rw [ho]
    go_simp
  try simp only [Act.put, List.setIfInBounds_toArray, List.set_cons_zero, List.set_cons_succ]
  refine wpAnyT_takeK (i := 23) (d := 39) (Op.fieldAddr 59 (Operand.tmp 1) 1) (.pointer (some ⟨w.heap.size, 1, none⟩)) (by kernel_rfl) (by kernel_rfl) (by kernel_rfl) (by kernel_rfl) (by kernel_rfl) (fun _ _ _ h => h) ?_ hS ?_
  · intro o ho W hW
    unfold execOp
    rw [ho]
    go_simp
  try simp only [Act.put, List.setIfInBounds_toArray, List.set_cons_zero, List.set_cons_succ]
  refine wpAnyT_takeK (i := 24) (d := 40) (Op.load 55 (Operand.tmp 39)) (.int .u64 v.gss) (by kernel_rfl) (by kernel_rfl) (by kernel_rfl) (by kernel_rfl) (by kernel_rfl) (fun _ _ _ h => h) ?_ hS ?_
  · intro o ho W hW
    have c : W.cell? ⟨w.heap.size, 1, none⟩ = some (.int .u64 v.gss) := (VwIn.vw hW).cell 1
    unfold execOp
    rw [ho]
    go_simp
  try simp only [Act.put, List.setIfInBounds_toArray, List.set_cons_zero, List.set_cons_succ]
  refine wpAnyT_ready (rs := [5]) (by kernel_rfl) (by simp) ?_
  refine (AllReadyT.cons (o := { dst := some 21, op := Op.call { callee := Callee.value (Operand.func 36), args := #[Operand.tmp 17, Operand.tmp 20], argTypes := #[55, 2] }, type := 55, pos := "ref.go:269", after := #[{ on := 1, ground := Ground.data }, { on := 4, ground := Ground.data }], guard := none }) (by kernel_rfl) (fun K hK => ?_) AllReadyT.nil)
  go_simp
  go_at_call 36
  with_reducible refine (HA.out _).mono ?_
  rintro e wq ⟨rfl, rfl⟩
  refine hK.out _ _ (fun _ => hS) ?_
  clear hK K
  try simp only [Act.put, List.setIfInBounds_toArray, List.set_cons_zero, List.set_cons_succ]
  refine wpAnyT_ready (rs := [8]) (by kernel_rfl) (by simp) ?_
  refine (AllReadyT.cons (o := { dst := some 24, op := Op.call { callee := Callee.value (Operand.func 121), args := #[Operand.tmp 21, Operand.tmp 23], argTypes := #[55, 55] }, type := 55, pos := "ref.go:269", after := #[{ on := 5, ground := Ground.data }, { on := 7, ground := Ground.data }, { on := 5, ground := Ground.chain }], guard := none }) (by kernel_rfl) (fun K hK => ?_) AllReadyT.nil)
  go_simp
  go_at_call 121
  with_reducible refine (HF1.out _).mono ?_
  rintro e wq ⟨rfl, rfl⟩
  refine hK.out _ _ (fun _ => hS) ?_
  clear hK K
  try simp only [Act.put, List.setIfInBounds_toArray, List.set_cons_zero, List.set_cons_succ]
  refine wpAnyT_ready (rs := [14]) (by kernel_rfl) (by simp) ?_
  refine (AllReadyT.cons (o := { dst := some 30, op := Op.call { callee := Callee.value (Operand.func 36), args := #[Operand.tmp 26, Operand.tmp 29], argTypes := #[55, 2] }, type := 55, pos := "ref.go:269", after := #[{ on := 10, ground := Ground.data }, { on := 13, ground := Ground.data }, { on := 8, ground := Ground.chain }], guard := none }) (by kernel_rfl) (fun K hK => ?_) AllReadyT.nil)
  go_simp
  go_at_call 36
  with_reducible refine (HB.out _).mono ?_
  rintro e wq ⟨rfl, rfl⟩
  refine hK.out _ _ (fun _ => hS) ?_
  clear hK K
  try simp only [Act.put, List.setIfInBounds_toArray, List.set_cons_zero, List.set_cons_succ]
  refine wpAnyT_ready (rs := [19]) (by kernel_rfl) (by simp) ?_
  refine (AllReadyT.cons (o := { dst := some 35, op := Op.call { callee := Callee.value (Operand.func 36), args := #[Operand.tmp 32, Operand.tmp 34], argTypes := #[55, 2] }, type := 55, pos := "ref.go:269", after := #[{ on := 16, ground := Ground.data }, { on := 18, ground := Ground.data }, { on := 14, ground := Ground.chain }], guard := none }) (by kernel_rfl) (fun K hK => ?_) AllReadyT.nil)
  go_simp
  go_at_call 36
  with_reducible refine (HC.out _).mono ?_
  rintro e wq ⟨rfl, rfl⟩
  refine hK.out _ _ (fun _ => hS) ?_
  clear hK K
  try simp only [Act.put, List.setIfInBounds_toArray, List.set_cons_zero, List.set_cons_succ]
  refine wpAnyT_ready (rs := [22]) (by kernel_rfl) (by simp) ?_
  refine (AllReadyT.cons (o := { dst := some 38, op := Op.call { callee := Callee.value (Operand.func 121), args := #[Operand.tmp 35, Operand.tmp 37], argTypes := #[55, 55] }, type := 55, pos := "ref.go:269", after := #[{ on := 19, ground := Ground.data }, { on := 21, ground := Ground.data }, { on := 19, ground := Ground.chain }], guard := none }) (by kernel_rfl) (fun K hK => ?_) AllReadyT.nil)
  go_simp
  go_at_call 121
  with_reducible refine (HF2.out _).mono ?_
  rintro e wq ⟨rfl, rfl⟩
  refine hK.out _ _ (fun _ => hS) ?_
  clear hK K
  try simp only [Act.put, List.setIfInBounds_toArray, List.set_cons_zero, List.set_cons_succ]
  refine wpAnyT_ready (rs := [25]) (by kernel_rfl) (by simp) ?_
  refine (AllReadyT.cons (o := { dst := some 41, op := Op.call { callee := Callee.value (Operand.func 35), args := #[Operand.tmp 40], argTypes := #[55] }, type := 55, pos := "ref.go:269", after := #[{ on := 24, ground := Ground.data }, { on := 22, ground := Ground.chain }], guard := none }) (by kernel_rfl) (fun K hK => ?_) AllReadyT.nil)
  go_simp
  go_at_call 35
  with_reducible refine (HO.out _).mono ?_
  rintro e wq ⟨rfl, rfl⟩
  refine hK.out _ _ (fun _ => hS) ?_
  clear hK K
  try simp only [Act.put, List.setIfInBounds_toArray, List.set_cons_zero, List.set_cons_succ]
  refine wpAnyT_takeK (i := 26) (d := 2) (Op.assign (Operand.tmp 24)) (.int .u64 sl) (by kernel_rfl) (by kernel_rfl) (by kernel_rfl) (by kernel_rfl) (by kernel_rfl) (fun _ _ _ h => h) ?_ hS ?_
  · intro o ho W hW
    unfold execOp
    rw [ho]
    go_simp
  try simp only [Act.put, List.setIfInBounds_toArray, List.set_cons_zero, List.set_cons_succ]
  refine wpAnyT_takeK (i := 27) (d := 3) (Op.assign (Operand.tmp 30)) (.int .u64 sh) (by kernel_rfl) (by kernel_rfl) (by kernel_rfl) (by kernel_rfl) (by kernel_rfl) (fun _ _ _ h => h) ?_ hS ?_
  · intro o ho W hW
    unfold execOp
    rw [ho]
    go_simp
  try simp only [Act.put, List.setIfInBounds_toArray, List.set_cons_zero, List.set_cons_succ]
  refine wpAnyT_takeK (i := 28) (d := 4) (Op.assign (Operand.tmp 38)) (.int .u64 al) (by kernel_rfl) (by kernel_rfl) (by kernel_rfl) (by kernel_rfl) (by kernel_rfl) (fun _ _ _ h => h) ?_ hS ?_
  · intro o ho W hW
    unfold execOp
    rw [ho]
    go_simp
  try simp only [Act.put, List.setIfInBounds_toArray, List.set_cons_zero, List.set_cons_succ]
  refine wpAnyT_takeK (i := 29) (d := 5) (Op.assign (Operand.tmp 41)) (.int .u64 ah) (by kernel_rfl) (by kernel_rfl) (by kernel_rfl) (by kernel_rfl) (by kernel_rfl) (fun _ _ _ h => h) ?_ hS ?_
  · intro o ho W hW
    unfold execOp
    rw [ho]
    go_simp
  try simp only [Act.put, List.setIfInBounds_toArray, List.set_cons_zero, List.set_cons_succ]
  refine wpAnyT_done (by kernel_rfl) ?_ _
  have HVD := Lib.hid hS
  clear hS
  go_wp2
  (try simp only [Exit.inBlock, Exit.then]); refine bodyPost_ret (results_tmp4 rfl _ _ _) rfl ?_
  exact ⟨rfl, HVD.out.bel⟩
set_option maxHeartbeats 4000000 in
set_option maxRecDepth 100000 in
theorem refCheck_data (v : Vw) (hv : v.Ok) (hst : v.state = 5) (h : Hd) (ht : h.type = 2) (hs : h.seq < 18446744073709551616) (ha : h.ack < 18446744073709551616) (hq : v.seqB h = true) (s : ByteArray) (w : World) :
    Calls Tryz.prog 53 #[v.val, Pv h (.slice none 0 0) s] w fun e w' => e = .returned (.int .i64 1) ∧ Below w.heap.size w w' := by
  have HW := Lib.hid (fun W => refWindows_any v hv W)
  have HI1 := Lib.hid (fun W => refIn_any v.awl h.ack v.awh (awl_lt v) ha (awh_lt v) W)
  have HI2 : Hid (∀ W, Calls Tryz.prog 92 #[.int .u64 v.swl, .int .u64 h.seq, .int .u64 v.swh] W fun e w' => e = .returned (.bool true) ∧ W = w') := Lib.hid (fun W => by
    have h9 := refIn_any v.swl h.seq v.swh (swl_lt v) hs (swh_lt v) W
    rw [show inB v.swl h.seq v.swh = true from hq] at h9
    exact h9)
  have HS : Hid (∀ W, Calls Tryz.prog 36 #[.int .u64 v.gsr, .int .i64 1] W fun e w' => e = .returned (.int .u64 (stepN v.gsr 1 : Nat)) ∧ W = w') := Lib.hid (fun W => by rw [stepN_int]; exact refStep_any v.gsr 1 hv.gsr (by decide) (by decide) W)
  have HI3 := Lib.hid (fun W => refIn_any (stepN v.gsr 1) h.seq v.swh (by have := stepN_lt v.gsr 1; omega) hs (swh_lt v) W)
  have HI4 := Lib.hid (fun W => refIn_any v.gar h.ack v.awh hv.gar ha (awh_lt v) W)
  have HIF := Lib.hid (fun b x y W => refIf2_any b x y W)
  generalize inB v.awl h.ack v.awh = b1 at *
  generalize inB (stepN v.gsr 1) h.seq v.swh = b3 at *
  generalize inB v.gar h.ack v.awh = b4 at *
  generalize v.swl = sl at *
  generalize v.swh = sh at *
  generalize v.awl = al at *
  generalize v.awh = ah at *
  generalize stepN v.gsr 1 = g1 at *
  obtain ⟨P, W, hP, hW, hvw, hpk, hbw⟩ := vp_new v h none 0 0 s w
  have HPK := Lib.hid hpk
  have HVW := Lib.hid hvw
  have HBW := Lib.hid hbw
  have HST := Lib.hid hst
  have HHT := Lib.hid ht
  clear hpk hvw hbw hq hst ht
  have hpv : ∀ q, Pv h q s = .agg #[.int .i64 h.src, .int .i64 h.dst, .int .i64 h.off, .int .i64 h.cc, .int .i64 h.cs, .int .i64 h.sum, .int .i64 h.type, .bool h.x, .int .u64 h.seq, .int .u64 h.ack, .int .u32 h.service, .int .i64 h.code, .int .u8 h.i0, .int .u8 h.i1, .int .u8 h.i2, q, .string s] := fun q => rfl
  rw [hpv]
  clear hpv
  unfold Vw.val
  go_enter Tryz.func53, Tryz.ntmps53
  go_upto_region 1 with fail
  clear hW hP
  go_upto_region 2 with (first
    | (refine load_vw rfl _ rfl w.heap.size rfl v HVW.out ?_)
    | (go_at_call 91; (with_reducible refine (HW.out _).mono ?_); rintro e w0 ⟨rfl, hb0⟩))
  have hv0 := HVW.out.below hb0
  have hp0 : PkBlk h (.slice none 0 0) s P w0 := PkBlk.below HPK.out hb0
  have HB0 := Lib.hid (bel_trans HBW.out hb0)
  have c0 : w0.cell? ⟨w.heap.size, 0, none⟩ = some (.int .i64 5) := by rw [← HST.out]; exact hv0.cell 0
  have c2 : w0.cell? ⟨w.heap.size, 2, none⟩ = some (.int .u64 v.gsr) := hv0.cell 2
  have c3 : w0.cell? ⟨w.heap.size, 3, none⟩ = some (.int .u64 v.gar) := hv0.cell 3
  have k6 : w0.cell? ⟨P, 6, none⟩ = some (.int .i64 2) := by rw [← HHT.out]; exact BlkIs.cell (cs := pkCells h (.slice none 0 0) s) hp0 6
  have k8 : w0.cell? ⟨P, 8, none⟩ = some (.int .u64 h.seq) := BlkIs.cell (cs := pkCells h (.slice none 0 0) s) hp0 8
  have k9 : w0.cell? ⟨P, 9, none⟩ = some (.int .u64 h.ack) := BlkIs.cell (cs := pkCells h (.slice none 0 0) s) hp0 9
  clear hv0 hp0 hb0 HVW HPK HBW HW
  go_quiet (fail)
  cases b3
  all_goals
    go_wp2_with (first
      | (go_at_call 36; (with_reducible refine (HS.out _).mono ?_); rintro e w1 ⟨rfl, rfl⟩)
      | (go_at_call 92; (first
        | (with_reducible refine (HI1.out _).mono ?_)
        | (with_reducible refine (HI2.out _).mono ?_)
        | (with_reducible refine (HI3.out _).mono ?_)
        | (with_reducible refine (HI4.out _).mono ?_)); rintro e w1 ⟨rfl, rfl⟩)
      | (go_at_call 93; (with_reducible refine (HIF.out _ _ _ _).mono ?_); rintro e w1 ⟨rfl, rfl⟩))
    go_ret
    exact ⟨rfl, bel_trans HB0.out (bel_drewN _ _)⟩
end Go.Proofs.YtnhlachoimlhhaaGreatDoor

namespace Go.Proofs.YtnhlachoimlhhaaGreatDoor
open Go.ChangeShapes Go.WideShapes Go.RowKit
set_option linter.unusedVariables false

theorem int_cellV {H : Type} {enc : TypeId × Value → H} {P : Program} {W : World} {base : Nat} {sp : Nat → Bool} {held : Bool} {n : Nat} {t : TypeId} {k : IntKind} {v : Value} {o : Option (DataW H × List MemPlace)}
    (ht : P.underlying t = some (.int k)) (hn : o ≠ none) (h : DataW.trod enc P W base sp held n t [v] = o) : ∃ z, v = .int k z ∧ (Lit.int k z).wf = true := by
  cases o with
  | none => exact absurd rfl hn
  | some x =>
    obtain ⟨z, hz, _, hw⟩ := DataW.trod_int ht h
    simp at hz
    exact ⟨z, hz, hw⟩
theorem some_atV {α : Type} {l : List α} {i : Nat} (h : i < l.length) : l[i]? ≠ none := by
  rw [List.getElem?_eq_getElem h]; exact fun e => by cases e
set_option maxRecDepth 100000 in
set_option maxHeartbeats 2000000 in
theorem open_vcells {H : Type} {enc : TypeId × Value → H} {W : World} {base : Nat} {sp : Nat → Bool} {held : Bool} {fuel : Nat} {cs : List Value} {x : DataW H × List MemPlace}
    (h : DataW.trod enc Tryz.prog W base sp held fuel 59 cs = some x) : ∃ g : Vw, cs = (vwCells g).toList ∧ g.Ok := by
  obtain ⟨ys, n, hn, _, hlen, hyl, hf⟩ := DataW.trod_struct Tryz.underlying59 h
  have hC : Tryz.prog.cellsOf 59 = 8 := by kernel_rfl
  rw [hC] at hlen
  have hy : ys.length = 8 := hyl
  match cs, hlen with
  | [c0, c1, c2, c3, c4, c5, c6, c7], _ =>
    have f0 : DataW.trod enc Tryz.prog W base sp held n 3 [c0] = ys[0]? := hf 0 _ rfl
    have f1 : DataW.trod enc Tryz.prog W base sp held n 55 [c1] = ys[1]? := hf 1 _ rfl
    have f2 : DataW.trod enc Tryz.prog W base sp held n 55 [c2] = ys[2]? := hf 2 _ rfl
    have f3 : DataW.trod enc Tryz.prog W base sp held n 55 [c3] = ys[3]? := hf 3 _ rfl
    have f4 : DataW.trod enc Tryz.prog W base sp held n 55 [c4] = ys[4]? := hf 4 _ rfl
    have f5 : DataW.trod enc Tryz.prog W base sp held n 55 [c5] = ys[5]? := hf 5 _ rfl
    have f6 : DataW.trod enc Tryz.prog W base sp held n 3 [c6] = ys[6]? := hf 6 _ rfl
    have f7 : DataW.trod enc Tryz.prog W base sp held n 3 [c7] = ys[7]? := hf 7 _ rfl
    obtain ⟨z0, rfl, w0⟩ := int_cellV Tryz.underlying3 (some_atV (by omega)) f0
    obtain ⟨z1, rfl, w1⟩ := int_cellV Tryz.underlying55 (some_atV (by omega)) f1
    obtain ⟨z2, rfl, w2⟩ := int_cellV Tryz.underlying55 (some_atV (by omega)) f2
    obtain ⟨z3, rfl, w3⟩ := int_cellV Tryz.underlying55 (some_atV (by omega)) f3
    obtain ⟨z4, rfl, w4⟩ := int_cellV Tryz.underlying55 (some_atV (by omega)) f4
    obtain ⟨z5, rfl, w5⟩ := int_cellV Tryz.underlying55 (some_atV (by omega)) f5
    obtain ⟨z6, rfl, w6⟩ := int_cellV Tryz.underlying3 (some_atV (by omega)) f6
    obtain ⟨z7, rfl, w7⟩ := int_cellV Tryz.underlying3 (some_atV (by omega)) f7
    have b1 := bounds_u64 w1
    have b2 := bounds_u64 w2
    have b3 := bounds_u64 w3
    have b4 := bounds_u64 w4
    have b5 := bounds_u64 w5
    obtain ⟨n1, rfl⟩ := Int.eq_ofNat_of_zero_le b1.1
    obtain ⟨n2, rfl⟩ := Int.eq_ofNat_of_zero_le b2.1
    obtain ⟨n3, rfl⟩ := Int.eq_ofNat_of_zero_le b3.1
    obtain ⟨n4, rfl⟩ := Int.eq_ofNat_of_zero_le b4.1
    obtain ⟨n5, rfl⟩ := Int.eq_ofNat_of_zero_le b5.1
    exact ⟨⟨z0, n1, n2, n3, n4, n5, z6, z7⟩, rfl, ⟨by show n1 < _; omega, by show n2 < _; omega, by show n3 < _; omega, by show n4 < _; omega, by show n5 < _; omega, bounds_i64 w6, bounds_i64 w7⟩⟩

set_option maxRecDepth 100000 in
theorem open_view {H : Type} {enc : TypeId × Value → H} {W : World} {r : Reach} {b0 : Nat} {sp : Nat → Bool} {held : Bool} {v : Value} {d : DataW H} {q : List MemPlace}
    (hv : Value.okWide Tryz.prog W r b0 59 v) (h : DataW.Trod enc Tryz.prog W 0 sp held 59 v d q) : ∃ g : Vw, v = g.val ∧ g.Ok := by
  obtain ⟨cs, rfl, hsz⟩ := okWide_struct Tryz.underlying59 hv
  obtain ⟨fuel, hf⟩ := h
  obtain ⟨g, hg, h1⟩ := open_vcells hf
  refine ⟨g, ?_, h1⟩
  have e : cs.toList = (vwCells g).toList := hg
  rw [Array.toList_inj] at e
  rw [e]; rfl
end Go.Proofs.YtnhlachoimlhhaaGreatDoor

namespace Go.Proofs.YtnhlachoimlhhaaGreatDoor
open Go.ChangeShapes Go.WideShapes Go.ChangeAt Go.RowKit
set_option linter.unusedVariables false
set_option linter.unusedSimpArgs false

set_option maxHeartbeats 16000000 in
set_option maxRecDepth 100000 in
theorem validWindow_walk (v : Vw) (hv : v.Ok) (wz : Int) (t1 : -9223372036854775808 ≤ wz) (t2 : wz ≤ 9223372036854775807) (w : World)
    (hbg : ∀ W, Below w.heap.size w W → Calls Tryz.prog 14 #[] W fun e w' => e = .returned (.bool true) ∧ Below W.heap.size W w') :
    Calls Tryz.prog 10 #[v.val, .int .i64 wz] w fun e w' => e = .returned (.bool true) ∧ Below w.heap.size w w' := by
  have HBG := Lib.hid hbg
  clear hbg
  obtain ⟨u0, e0, e01, e02, S0, e03, e04⟩ := mod_at wz 969 (by decide)
  obtain ⟨g, hg⟩ : ∃ g, v.gsr % 281474976710656 = g := ⟨_, rfl⟩
  obtain ⟨a, ha⟩ : ∃ a, v.gss % 281474976710656 = a := ⟨_, rfl⟩
  have hgb : g < 281474976710656 := by omega
  have hab : a < 281474976710656 := by omega
  have HQ1 : Hid (∀ W, Calls Tryz.prog 35 #[.int .u64 v.gsr] W fun e w' => e = .returned (.int .u64 (g : Nat)) ∧ W = w') := Lib.hid (fun W => by rw [← hg]; exact refSeq_any v.gsr hv.gsr W)
  have HQ2 : Hid (∀ W, Calls Tryz.prog 35 #[.int .u64 v.gss] W fun e w' => e = .returned (.int .u64 (a : Nat)) ∧ W = w') := Lib.hid (fun W => by rw [← ha]; exact refSeq_any v.gss hv.gss W)
  obtain ⟨N, hN⟩ : ∃ N : Int, 32 + (S0 : Int) = N := ⟨_, rfl⟩
  have hN1 : 32 ≤ N := by omega
  have hN2 : N ≤ 1000 := by omega
  obtain ⟨lo, hlo⟩ : ∃ x : Int, 1 - N / 4 = x := ⟨_, rfl⟩
  obtain ⟨hi, hhi⟩ : ∃ x : Int, 3 * N / 4 = x := ⟨_, rfl⟩
  have hlb : -249 ≤ lo ∧ lo ≤ -7 := by omega
  have hhb : 24 ≤ hi ∧ hi ≤ 750 := by omega
  have q0 : IntKind.i64.wrap (32 + (S0 : Int)) = N := by rw [IntKind.wrap_i64]; omega
  have q1 : IntKind.i64.wrap (N.tdiv 4) = N / 4 := by rw [Int.tdiv_eq_ediv_of_nonneg (by omega), IntKind.wrap_i64]; omega
  have q2 : IntKind.i64.wrap (1 - N / 4) = lo := by rw [IntKind.wrap_i64]; omega
  have q4 : IntKind.i64.wrap (3 * N) = 3 * N := by rw [IntKind.wrap_i64]; omega
  have q5 : IntKind.i64.wrap ((3 * N).tdiv 4) = hi := by rw [Int.tdiv_eq_ediv_of_nonneg (by omega), IntKind.wrap_i64]; omega
  have q6 : IntKind.i64.wrap (lo - 1) = lo - 1 := by rw [IntKind.wrap_i64]; omega
  have q7 : IntKind.i64.wrap (hi + 1) = hi + 1 := by rw [IntKind.wrap_i64]; omega
  have q8 : IntKind.i64.wrap (-N) = -N := by rw [IntKind.wrap_i64]; omega
  have q9 : IntKind.i64.wrap (1 - N) = 1 - N := by rw [IntKind.wrap_i64]; omega
  have lv := stepN_lt g
  have la := stepN_lt a
  have HS1 : Hid (∀ W, Calls Tryz.prog 36 #[.int .u64 g, .int .i64 (-5000)] W fun e w' => e = .returned (.int .u64 (stepN g (-5000) : Nat)) ∧ W = w') := Lib.hid (fun W => by rw [stepN_int]; exact refStep_any g (-5000) (by omega) (by omega) (by omega) W)
  have HS2 : Hid (∀ W, Calls Tryz.prog 36 #[.int .u64 a, .int .i64 (-5000)] W fun e w' => e = .returned (.int .u64 (stepN a (-5000) : Nat)) ∧ W = w') := Lib.hid (fun W => by rw [stepN_int]; exact refStep_any a (-5000) (by omega) (by omega) (by omega) W)
  have HS3 : Hid (∀ d : Int, -2000 ≤ d → d ≤ 2000 → ∀ W, Calls Tryz.prog 36 #[.int .u64 g, .int .i64 d] W fun e w' => e = .returned (.int .u64 (stepN g d : Nat)) ∧ W = w') := Lib.hid (fun d h1 h2 W => by rw [stepN_int]; exact refStep_any g d (by omega) (by omega) (by omega) W)
  have HS4 : Hid (∀ d : Int, -2000 ≤ d → d ≤ 2000 → ∀ W, Calls Tryz.prog 36 #[.int .u64 a, .int .i64 d] W fun e w' => e = .returned (.int .u64 (stepN a d : Nat)) ∧ W = w') := Lib.hid (fun d h1 h2 W => by rw [stepN_int]; exact refStep_any a d (by omega) (by omega) (by omega) W)
  have hvk : (vWd g a N).Ok := ⟨by show a < _; omega, by show g < _; omega, by show a < _; omega, by show stepN a (-5000) < _; have := la (-5000); omega, by show stepN g (-5000) < _; have := lv (-5000); omega, by show -9223372036854775808 ≤ N ∧ N ≤ _; omega, by show -9223372036854775808 ≤ N ∧ N ≤ _; omega⟩
  have HC : Hid (∀ (t : Int) (s k : Nat) (J : Int), s < 18446744073709551616 → k < 18446744073709551616 → (vWd g a N).judge (vHd t s k) = J → ∀ W, Calls Tryz.prog 37 #[(vWd g a N).val, Pv (vHd t s k) (.slice none 0 0) ⟨#[]⟩] W fun e w' => e = .returned (.int .i64 J) ∧ Below W.heap.size W w') := Lib.hid (fun t s k J hs hk hj W => by
    have h9 := vdCheck_nil (vWd g a N) hvk (vHd t s k) hs hk ⟨#[]⟩ W
    rw [vHd_long, hj] at h9
    exact h9)
  have HRC : Hid (∀ W, Calls Tryz.prog 53 #[(vWd g a N).val, .agg #[.int .i64 0, .int .i64 0, .int .i64 0, .int .i64 0, .int .i64 0, .int .i64 0, .int .i64 2, .bool false, .int .u64 g, .int .u64 0, .int .u32 0, .int .i64 0, .int .u8 0, .int .u8 0, .int .u8 0, .slice none 0 0, .string { data := #[] }]] W fun e w' => e = .returned (.int .i64 1) ∧ Below W.heap.size W w') := Lib.hid (fun W => by
    refine refCheck_data (vWd g a N) hvk rfl { vHd 2 g 0 with x := false } rfl (by show g < _; omega) (by show 0 < _; decide) ?_ ⟨#[]⟩ W
    have h9 := vw_seq g a N hN1 hN2 hgb 2 0 0 (by omega)
    rw [stepN_zero g hgb] at h9
    have h8 : (vWd g a N).seqB { vHd 2 g 0 with x := false } = (vWd g a N).seqB (vHd 2 g 0) := rfl
    rw [h8, h9]
    exact decide_eq_true (by omega))
  have HD := Lib.hid (fun d => vw_data g a N hN1 hN2 hgb d)
  have HK := Lib.hid (fun d => vw_acks g a N hN1 hN2 hgb hab d)
  rw [hlo, hhi] at HD
  obtain ⟨W0, hW0, hv0⟩ := VwIn.new v w
  have HV0 := Lib.hid hv0
  clear hv0
  unfold Vw.val
  go_enter Tryz.func10, Tryz.ntmps10
  go_upto_region 1 with fail
  clear hW0
  go_upto_region 4 with (go_at_call 14; (with_reducible refine (HBG.out _ HV0.out.bel).mono ?_); rintro e w0 ⟨rfl, hb0⟩)
  have HV1 : Hid (VwIn v w w0) := Lib.hid (HV0.out.below hb0)
  clear hb0 HV0 HBG
  have c0 : w0.cell? ⟨w.heap.size, 0, none⟩ = some (.int .i64 v.state) := HV1.out.vw.cell 0
  have c6 : w0.cell? ⟨w.heap.size, 6, none⟩ = some (.int .i64 v.mine) := HV1.out.vw.cell 6
  have c7 : w0.cell? ⟨w.heap.size, 7, none⟩ = some (.int .i64 v.theirs) := HV1.out.vw.cell 7
  have f0 := HV1.out.vw.free 0
  have f6 := HV1.out.vw.free 6
  have f7 := HV1.out.vw.free 7
  go_upto_region 5 with fail
  obtain ⟨W2, hW2⟩ : ∃ X, ((w0.setCell ⟨w.heap.size, 0, none⟩ (.int .i64 5)).setCell ⟨w.heap.size, 7, none⟩ (.int .i64 N)).setCell ⟨w.heap.size, 6, none⟩ (.int .i64 N) = X := ⟨_, rfl⟩
  have HV2 : Hid (VwIn ⟨5, v.gss, v.gsr, v.gar, v.iss, v.isr, N, N⟩ w W2) := Lib.hid (by
    rw [← hW2]
    have h1 : VwIn ⟨5, v.gss, v.gsr, v.gar, v.iss, v.isr, v.mine, v.theirs⟩ w _ := HV1.out.set 0 (.int .i64 5) rfl
    have h2 : VwIn ⟨5, v.gss, v.gsr, v.gar, v.iss, v.isr, v.mine, N⟩ w _ := h1.set 7 (.int .i64 N) rfl
    exact h2.set 6 (.int .i64 N) rfl)
  rw [hW2]
  clear hW2 c0 c6 c7 f0 f6 f7 HV1
  refine wp_region_T (fun W => VwIn ⟨5, v.gss, v.gsr, v.gar, v.iss, v.isr, N, N⟩ w W) 6 (by kernel_rfl) ?_
  have hS := HV2.out.drew
  generalize W2.drew = Wd at hS ⊢
  refine wpAnyT_takeK (i := 0) (d := 31) (Op.fieldAddr 59 (Operand.tmp 2) 2) (.pointer (some ⟨w.heap.size, 2, none⟩)) (by kernel_rfl) (by kernel_rfl) (by kernel_rfl) (by kernel_rfl) (by kernel_rfl) (fun _ _ _ h => h) ?_ hS ?_
  · intro o ho W hW
    unfold execOp
    rw [ho]
    go_simp
  try simp only [Act.put, List.setIfInBounds_toArray, List.set_cons_zero, List.set_cons_succ]
  refine wpAnyT_takeK (i := 1) (d := 32) (Op.load 55 (Operand.tmp 31)) (.int .u64 v.gsr) (by kernel_rfl) (by kernel_rfl) (by kernel_rfl) (by kernel_rfl) (by kernel_rfl) (fun _ _ _ h => h) ?_ hS ?_
  · intro o ho W hW
    have c : W.cell? ⟨w.heap.size, 2, none⟩ = some (.int .u64 v.gsr) := (VwIn.vw hW).cell 2
    unfold execOp
    rw [ho]
    go_simp
  try simp only [Act.put, List.setIfInBounds_toArray, List.set_cons_zero, List.set_cons_succ]
  refine wpAnyT_takeK (i := 3) (d := 34) (Op.fieldAddr 59 (Operand.tmp 2) 1) (.pointer (some ⟨w.heap.size, 1, none⟩)) (by kernel_rfl) (by kernel_rfl) (by kernel_rfl) (by kernel_rfl) (by kernel_rfl) (fun _ _ _ h => h) ?_ hS ?_
  · intro o ho W hW
    unfold execOp
    rw [ho]
    go_simp
  try simp only [Act.put, List.setIfInBounds_toArray, List.set_cons_zero, List.set_cons_succ]
  refine wpAnyT_takeK (i := 4) (d := 35) (Op.load 55 (Operand.tmp 34)) (.int .u64 v.gss) (by kernel_rfl) (by kernel_rfl) (by kernel_rfl) (by kernel_rfl) (by kernel_rfl) (fun _ _ _ h => h) ?_ hS ?_
  · intro o ho W hW
    have c : W.cell? ⟨w.heap.size, 1, none⟩ = some (.int .u64 v.gss) := (VwIn.vw hW).cell 1
    unfold execOp
    rw [ho]
    go_simp
  try simp only [Act.put, List.setIfInBounds_toArray, List.set_cons_zero, List.set_cons_succ]
  refine wpAnyT_ready (rs := [2]) (by kernel_rfl) (by simp) ?_
  refine (AllReadyT.cons (o := { dst := some 33, op := Op.call { callee := Callee.value (Operand.func 35), args := #[Operand.tmp 32], argTypes := #[55] }, type := 55, pos := "more.go:194", after := #[{ on := 1, ground := Ground.data }], guard := none }) (by kernel_rfl) (fun K hK => ?_) AllReadyT.nil)
  go_simp
  go_at_call 35
  with_reducible refine (HQ1.out _).mono ?_
  rintro e wq ⟨rfl, rfl⟩
  refine hK.out _ _ (fun _ => hS) ?_
  clear hK K
  try simp only [Act.put, List.setIfInBounds_toArray, List.set_cons_zero, List.set_cons_succ]
  refine wpAnyT_tailK (i := 6) (d := 37) (Op.fieldAddr 59 (Operand.tmp 2) 2) (.pointer (some ⟨w.heap.size, 2, none⟩)) (by kernel_rfl) (by kernel_rfl) (by kernel_rfl) (by kernel_rfl) (by decide) (fun _ _ _ h => h) ?_ ?_
  · intro o ho W
    unfold execOp
    rw [ho]
    go_simp
  try simp only [Act.put, List.setIfInBounds_toArray, List.set_cons_zero, List.set_cons_succ]
  refine wpAnyT_ready (rs := [5]) (by kernel_rfl) (by simp) ?_
  refine (AllReadyT.cons (o := { dst := some 36, op := Op.call { callee := Callee.value (Operand.func 35), args := #[Operand.tmp 35], argTypes := #[55] }, type := 55, pos := "more.go:194", after := #[{ on := 4, ground := Ground.data }, { on := 2, ground := Ground.chain }], guard := none }) (by kernel_rfl) (fun K hK => ?_) AllReadyT.nil)
  go_simp
  go_at_call 35
  with_reducible refine (HQ2.out _).mono ?_
  rintro e wq ⟨rfl, rfl⟩
  refine hK.out _ _ (fun _ => hS) ?_
  clear hK K
  try simp only [Act.put, List.setIfInBounds_toArray, List.set_cons_zero, List.set_cons_succ]
  refine wpAnyT_ready (rs := [7]) (by kernel_rfl) (by simp) ?_
  refine (AllReadyT.cons (o := { dst := none, op := Op.store 55 (Operand.tmp 37) (Operand.tmp 33), type := 0, pos := "more.go:194", after := #[{ on := 6, ground := Ground.data }, { on := 2, ground := Ground.data }, { on := 5, ground := Ground.chain }, { on := 0, ground := Ground.phase }, { on := 1, ground := Ground.phase }, { on := 2, ground := Ground.phase }, { on := 3, ground := Ground.phase }, { on := 4, ground := Ground.phase }, { on := 5, ground := Ground.textOnly Departure.lateStoresUnsure }], guard := none }) (by kernel_rfl) (fun K hK => ?_) AllReadyT.nil)
  have c : (Wd).cell? ⟨w.heap.size, 2, none⟩ = some (.int .u64 v.gsr) := (VwIn.vw hS).cell 2
  have f := (VwIn.vw hS).free 2
  go_simp
  refine hK.out _ _ (fun h => absurd h (by decide)) ?_
  obtain ⟨W3, hY⟩ : ∃ X, (Wd).setCell ⟨w.heap.size, 2, none⟩ (.int .u64 g) = X := ⟨_, rfl⟩
  rw [hY]
  have HV3 : Hid (VwIn ⟨5, v.gss, g, v.gar, v.iss, v.isr, N, N⟩ w W3) := Lib.hid (by rw [← hY]; exact VwIn.set hS 2 _ rfl)
  clear hY c f
  clear hK K
  try simp only [Act.put, List.setIfInBounds_toArray, List.set_cons_zero, List.set_cons_succ]
  refine wpAnyT_tailK (i := 8) (d := 38) (Op.fieldAddr 59 (Operand.tmp 2) 1) (.pointer (some ⟨w.heap.size, 1, none⟩)) (by kernel_rfl) (by kernel_rfl) (by kernel_rfl) (by kernel_rfl) (by decide) (fun _ _ _ h => h) ?_ ?_
  · intro o ho W
    unfold execOp
    rw [ho]
    go_simp
  try simp only [Act.put, List.setIfInBounds_toArray, List.set_cons_zero, List.set_cons_succ]
  refine wpAnyT_ready (rs := [9]) (by kernel_rfl) (by simp) ?_
  refine (AllReadyT.cons (o := { dst := none, op := Op.store 55 (Operand.tmp 38) (Operand.tmp 36), type := 0, pos := "more.go:194", after := #[{ on := 8, ground := Ground.data }, { on := 5, ground := Ground.data }, { on := 7, ground := Ground.chain }, { on := 0, ground := Ground.phase }, { on := 1, ground := Ground.phase }, { on := 2, ground := Ground.phase }, { on := 3, ground := Ground.phase }, { on := 4, ground := Ground.phase }, { on := 5, ground := Ground.phase }, { on := 6, ground := Ground.phase }, { on := 7, ground := Ground.phase }], guard := none }) (by kernel_rfl) (fun K hK => ?_) AllReadyT.nil)
  have c : (W3).cell? ⟨w.heap.size, 1, none⟩ = some (.int .u64 v.gss) := (VwIn.vw HV3.out).cell 1
  have f := (VwIn.vw HV3.out).free 1
  go_simp
  refine hK.out _ _ (fun h => absurd h (by decide)) ?_
  obtain ⟨W4, hY⟩ : ∃ X, (W3).setCell ⟨w.heap.size, 1, none⟩ (.int .u64 a) = X := ⟨_, rfl⟩
  rw [hY]
  have HV4 : Hid (VwIn ⟨5, a, g, v.gar, v.iss, v.isr, N, N⟩ w W4) := Lib.hid (by rw [← hY]; exact VwIn.set HV3.out 1 _ rfl)
  clear hY c f
  clear hK K
  try simp only [Act.put, List.setIfInBounds_toArray, List.set_cons_zero, List.set_cons_succ]
  refine wpAnyT_done (by kernel_rfl) ?_ _
  clear hS HV2 HV3 HQ1 HQ2
  go_upto_region 6 with fail
  refine wp_region_T (fun W => VwIn ⟨5, a, g, v.gar, v.iss, v.isr, N, N⟩ w W) 8 (by kernel_rfl) ?_
  have hS := HV4.out.drew
  generalize W4.drew = Wd at hS ⊢
  refine wpAnyT_takeK (i := 0) (d := 39) (Op.fieldAddr 59 (Operand.tmp 2) 2) (.pointer (some ⟨w.heap.size, 2, none⟩)) (by kernel_rfl) (by kernel_rfl) (by kernel_rfl) (by kernel_rfl) (by kernel_rfl) (fun _ _ _ h => h) ?_ hS ?_
  · intro o ho W hW
    unfold execOp
    rw [ho]
    go_simp
  try simp only [Act.put, List.setIfInBounds_toArray, List.set_cons_zero, List.set_cons_succ]
  refine wpAnyT_takeK (i := 1) (d := 40) (Op.load 55 (Operand.tmp 39)) (.int .u64 g) (by kernel_rfl) (by kernel_rfl) (by kernel_rfl) (by kernel_rfl) (by kernel_rfl) (fun _ _ _ h => h) ?_ hS ?_
  · intro o ho W hW
    have c : W.cell? ⟨w.heap.size, 2, none⟩ = some (.int .u64 g) := (VwIn.vw hW).cell 2
    unfold execOp
    rw [ho]
    go_simp
  try simp only [Act.put, List.setIfInBounds_toArray, List.set_cons_zero, List.set_cons_succ]
  refine wpAnyT_takeK (i := 3) (d := 42) (Op.fieldAddr 59 (Operand.tmp 2) 1) (.pointer (some ⟨w.heap.size, 1, none⟩)) (by kernel_rfl) (by kernel_rfl) (by kernel_rfl) (by kernel_rfl) (by kernel_rfl) (fun _ _ _ h => h) ?_ hS ?_
  · intro o ho W hW
    unfold execOp
    rw [ho]
    go_simp
  try simp only [Act.put, List.setIfInBounds_toArray, List.set_cons_zero, List.set_cons_succ]
  refine wpAnyT_takeK (i := 4) (d := 43) (Op.load 55 (Operand.tmp 42)) (.int .u64 a) (by kernel_rfl) (by kernel_rfl) (by kernel_rfl) (by kernel_rfl) (by kernel_rfl) (fun _ _ _ h => h) ?_ hS ?_
  · intro o ho W hW
    have c : W.cell? ⟨w.heap.size, 1, none⟩ = some (.int .u64 a) := (VwIn.vw hW).cell 1
    unfold execOp
    rw [ho]
    go_simp
  try simp only [Act.put, List.setIfInBounds_toArray, List.set_cons_zero, List.set_cons_succ]
  refine wpAnyT_takeK (i := 6) (d := 45) (Op.fieldAddr 59 (Operand.tmp 2) 1) (.pointer (some ⟨w.heap.size, 1, none⟩)) (by kernel_rfl) (by kernel_rfl) (by kernel_rfl) (by kernel_rfl) (by kernel_rfl) (fun _ _ _ h => h) ?_ hS ?_
  · intro o ho W hW
    unfold execOp
    rw [ho]
    go_simp
  try simp only [Act.put, List.setIfInBounds_toArray, List.set_cons_zero, List.set_cons_succ]
  refine wpAnyT_takeK (i := 7) (d := 46) (Op.load 55 (Operand.tmp 45)) (.int .u64 a) (by kernel_rfl) (by kernel_rfl) (by kernel_rfl) (by kernel_rfl) (by kernel_rfl) (fun _ _ _ h => h) ?_ hS ?_
  · intro o ho W hW
    have c : W.cell? ⟨w.heap.size, 1, none⟩ = some (.int .u64 a) := (VwIn.vw hW).cell 1
    unfold execOp
    rw [ho]
    go_simp
  try simp only [Act.put, List.setIfInBounds_toArray, List.set_cons_zero, List.set_cons_succ]
  refine wpAnyT_ready (rs := [2]) (by kernel_rfl) (by simp) ?_
  refine (AllReadyT.cons (o := { dst := some 41, op := Op.call { callee := Callee.value (Operand.func 36), args := #[Operand.tmp 40, Operand.const (Value.int IntKind.i64 (-5000))], argTypes := #[55, 2] }, type := 55, pos := "more.go:195", after := #[{ on := 1, ground := Ground.data }], guard := none }) (by kernel_rfl) (fun K hK => ?_) AllReadyT.nil)
  go_simp
  go_at_call 36
  with_reducible refine (HS1.out _).mono ?_
  rintro e wq ⟨rfl, rfl⟩
  refine hK.out _ _ (fun _ => hS) ?_
  clear hK K
  try simp only [Act.put, List.setIfInBounds_toArray, List.set_cons_zero, List.set_cons_succ]
  refine wpAnyT_tailK (i := 8) (d := 47) (Op.fieldAddr 59 (Operand.tmp 2) 5) (.pointer (some ⟨w.heap.size, 5, none⟩)) (by kernel_rfl) (by kernel_rfl) (by kernel_rfl) (by kernel_rfl) (by decide) (fun _ _ _ h => h) ?_ ?_
  · intro o ho W
    unfold execOp
    rw [ho]
    go_simp
  try simp only [Act.put, List.setIfInBounds_toArray, List.set_cons_zero, List.set_cons_succ]
  refine wpAnyT_ready (rs := [5]) (by kernel_rfl) (by simp) ?_
  refine (AllReadyT.cons (o := { dst := some 44, op := Op.call { callee := Callee.value (Operand.func 36), args := #[Operand.tmp 43, Operand.const (Value.int IntKind.i64 (-5000))], argTypes := #[55, 2] }, type := 55, pos := "more.go:195", after := #[{ on := 4, ground := Ground.data }, { on := 2, ground := Ground.chain }], guard := none }) (by kernel_rfl) (fun K hK => ?_) AllReadyT.nil)
  go_simp
  go_at_call 36
  with_reducible refine (HS2.out _).mono ?_
  rintro e wq ⟨rfl, rfl⟩
  refine hK.out _ _ (fun _ => hS) ?_
  clear hK K
  try simp only [Act.put, List.setIfInBounds_toArray, List.set_cons_zero, List.set_cons_succ]
  refine wpAnyT_ready (rs := [9]) (by kernel_rfl) (by simp) ?_
  refine (AllReadyT.cons (o := { dst := none, op := Op.store 55 (Operand.tmp 47) (Operand.tmp 41), type := 0, pos := "more.go:195", after := #[{ on := 8, ground := Ground.data }, { on := 2, ground := Ground.data }, { on := 5, ground := Ground.chain }, { on := 0, ground := Ground.phase }, { on := 1, ground := Ground.phase }, { on := 2, ground := Ground.phase }, { on := 3, ground := Ground.phase }, { on := 4, ground := Ground.phase }, { on := 5, ground := Ground.textOnly Departure.lateStoresUnsure }, { on := 6, ground := Ground.phase }, { on := 7, ground := Ground.phase }], guard := none }) (by kernel_rfl) (fun K hK => ?_) AllReadyT.nil)
  have c : (Wd).cell? ⟨w.heap.size, 5, none⟩ = some (.int .u64 v.isr) := (VwIn.vw hS).cell 5
  have f := (VwIn.vw hS).free 5
  go_simp
  refine hK.out _ _ (fun h => absurd h (by decide)) ?_
  obtain ⟨W5, hY⟩ : ∃ X, (Wd).setCell ⟨w.heap.size, 5, none⟩ (.int .u64 (stepN g (-5000) : Nat)) = X := ⟨_, rfl⟩
  rw [hY]
  have HV5 : Hid (VwIn ⟨5, a, g, v.gar, v.iss, stepN g (-5000), N, N⟩ w W5) := Lib.hid (by rw [← hY]; exact VwIn.set hS 5 _ rfl)
  clear hY c f
  clear hK K
  try simp only [Act.put, List.setIfInBounds_toArray, List.set_cons_zero, List.set_cons_succ]
  refine wpAnyT_tailK (i := 10) (d := 48) (Op.fieldAddr 59 (Operand.tmp 2) 4) (.pointer (some ⟨w.heap.size, 4, none⟩)) (by kernel_rfl) (by kernel_rfl) (by kernel_rfl) (by kernel_rfl) (by decide) (fun _ _ _ h => h) ?_ ?_
  · intro o ho W
    unfold execOp
    rw [ho]
    go_simp
  try simp only [Act.put, List.setIfInBounds_toArray, List.set_cons_zero, List.set_cons_succ]
  refine wpAnyT_ready (rs := [11]) (by kernel_rfl) (by simp) ?_
  refine (AllReadyT.cons (o := { dst := none, op := Op.store 55 (Operand.tmp 48) (Operand.tmp 44), type := 0, pos := "more.go:195", after := #[{ on := 10, ground := Ground.data }, { on := 5, ground := Ground.data }, { on := 9, ground := Ground.chain }, { on := 0, ground := Ground.phase }, { on := 1, ground := Ground.phase }, { on := 2, ground := Ground.phase }, { on := 3, ground := Ground.phase }, { on := 4, ground := Ground.phase }, { on := 5, ground := Ground.phase }, { on := 6, ground := Ground.phase }, { on := 7, ground := Ground.phase }, { on := 8, ground := Ground.phase }, { on := 9, ground := Ground.phase }], guard := none }) (by kernel_rfl) (fun K hK => ?_) AllReadyT.nil)
  have c : (W5).cell? ⟨w.heap.size, 4, none⟩ = some (.int .u64 v.iss) := (VwIn.vw HV5.out).cell 4
  have f := (VwIn.vw HV5.out).free 4
  go_simp
  refine hK.out _ _ (fun h => absurd h (by decide)) ?_
  obtain ⟨W6, hY⟩ : ∃ X, (W5).setCell ⟨w.heap.size, 4, none⟩ (.int .u64 (stepN a (-5000) : Nat)) = X := ⟨_, rfl⟩
  rw [hY]
  have HV6 : Hid (VwIn ⟨5, a, g, v.gar, stepN a (-5000), stepN g (-5000), N, N⟩ w W6) := Lib.hid (by rw [← hY]; exact VwIn.set HV5.out 4 _ rfl)
  clear hY c f
  clear hK K
  try simp only [Act.put, List.setIfInBounds_toArray, List.set_cons_zero, List.set_cons_succ]
  refine wpAnyT_tailK (i := 12) (d := 49) (Op.fieldAddr 59 (Operand.tmp 2) 3) (.pointer (some ⟨w.heap.size, 3, none⟩)) (by kernel_rfl) (by kernel_rfl) (by kernel_rfl) (by kernel_rfl) (by decide) (fun _ _ _ h => h) ?_ ?_
  · intro o ho W
    unfold execOp
    rw [ho]
    go_simp
  try simp only [Act.put, List.setIfInBounds_toArray, List.set_cons_zero, List.set_cons_succ]
  refine wpAnyT_ready (rs := [13]) (by kernel_rfl) (by simp) ?_
  refine (AllReadyT.cons (o := { dst := none, op := Op.store 55 (Operand.tmp 49) (Operand.tmp 46), type := 0, pos := "more.go:195", after := #[{ on := 12, ground := Ground.data }, { on := 7, ground := Ground.data }, { on := 11, ground := Ground.chain }, { on := 0, ground := Ground.phase }, { on := 1, ground := Ground.phase }, { on := 2, ground := Ground.phase }, { on := 3, ground := Ground.phase }, { on := 4, ground := Ground.phase }, { on := 5, ground := Ground.phase }, { on := 6, ground := Ground.phase }, { on := 7, ground := Ground.phase }, { on := 8, ground := Ground.phase }, { on := 9, ground := Ground.phase }, { on := 10, ground := Ground.phase }, { on := 11, ground := Ground.phase }], guard := none }) (by kernel_rfl) (fun K hK => ?_) AllReadyT.nil)
  have c : (W6).cell? ⟨w.heap.size, 3, none⟩ = some (.int .u64 v.gar) := (VwIn.vw HV6.out).cell 3
  have f := (VwIn.vw HV6.out).free 3
  go_simp
  refine hK.out _ _ (fun h => absurd h (by decide)) ?_
  obtain ⟨W7, hY⟩ : ∃ X, (W6).setCell ⟨w.heap.size, 3, none⟩ (.int .u64 a) = X := ⟨_, rfl⟩
  rw [hY]
  have HV7 : Hid (VwIn (vWd g a N) w W7) := Lib.hid (by rw [← hY]; exact VwIn.set HV6.out 3 _ rfl)
  clear hY c f
  clear hK K
  try simp only [Act.put, List.setIfInBounds_toArray, List.set_cons_zero, List.set_cons_succ]
  refine wpAnyT_done (by kernel_rfl) ?_ _
  clear hS HV4 HV5 HV6 HS1 HS2
  have c7 : W7.cell? ⟨w.heap.size, 7, none⟩ = some (.int .i64 N) := HV7.out.vw.cell 7
  go_wp2
  obtain ⟨R, hR⟩ : ∃ R, W7.heap.size = R := ⟨_, rfl⟩
  have HR : Hid (w.heap.size < R) := Lib.hid (by rw [← hR]; exact HV7.out.lt)
  have HV8 := Lib.hid (HV7.out.alloc (.cells #[.int .i64 (lo - 1), .int .i64 lo, .int .i64 hi, .int .i64 (hi + 1)] 2))
  have HB8 := Lib.hid (BlkIs.new #[.int .i64 (lo - 1), .int .i64 lo, .int .i64 hi, .int .i64 (hi + 1)] 2 W7)
  rw [hR] at HB8
  (try rw [hR])
  clear hR c7 HV7
  go_loopw [66] (fun iv wr => ∃ i : Nat, iv = .int .i64 (i : Int) ∧ i ≤ 4 ∧ Hid (VwIn (vWd g a N) w wr) ∧ Hid (BlkIs #[.int .i64 (lo - 1), .int .i64 lo, .int .i64 hi, .int .i64 (hi + 1)] 2 R wr)) (fun iv _ => 4 - (intOf iv).toNat)
  case atStart => exact ⟨0, rfl, by decide, HV8, HB8⟩
  case round =>
    clear HV8 HB8
    obtain ⟨i, rfl, hi4, hvr, hbr⟩ := hrel
    by_cases hi3 : i < 4
    · have di : decide ((i : Int) < 4) = true := decide_eq_true (by omega)
      have d0 : (0 : Int) ≤ (i : Int) := by omega
      have di4 : (i : Int) < 4 := by omega
      obtain ⟨d, J, xL, xH, hcell, hdb, hJ, hL, hL2, hH, hH2, hx⟩ : ∃ (d : Int) (J : Int) (xL xH : Bool), wr.cell? ⟨R, i, none⟩ = some (.int .i64 d) ∧ (-2000 ≤ d ∧ d ≤ 2000) ∧ (if lo ≤ d ∧ d ≤ hi then (1 : Int) else 2) = J ∧ decide (d = lo) = xL ∧ (d == lo) = xL ∧ decide (d = hi) = xH ∧ (d == hi) = xH ∧ ((J = 1 ∧ ((xL = true ∧ xH = false) ∨ (xL = false ∧ xH = true))) ∨ (J = 2 ∧ xL = false ∧ xH = false)) := by
        have : i = 0 ∨ i = 1 ∨ i = 2 ∨ i = 3 := by omega
        rcases this with rfl | rfl | rfl | rfl
        · exact ⟨lo - 1, 2, false, false, hbr.out.cell 0, by omega, if_neg (by omega), decide_eq_false (by omega), by rw [beq_eq_false_iff_ne]; omega, decide_eq_false (by omega), by rw [beq_eq_false_iff_ne]; omega, .inr ⟨rfl, rfl, rfl⟩⟩
        · exact ⟨lo, 1, true, false, hbr.out.cell 1, by omega, if_pos (by omega), decide_eq_true rfl, by simp, decide_eq_false (by omega), by rw [beq_eq_false_iff_ne]; omega, .inl ⟨rfl, .inl ⟨rfl, rfl⟩⟩⟩
        · exact ⟨hi, 1, false, true, hbr.out.cell 2, by omega, if_pos (by omega), decide_eq_false (by omega), by rw [beq_eq_false_iff_ne]; omega, decide_eq_true rfl, by simp, .inl ⟨rfl, .inr ⟨rfl, rfl⟩⟩⟩
        · exact ⟨hi + 1, 2, false, false, hbr.out.cell 3, by omega, if_neg (by omega), decide_eq_false (by omega), by rw [beq_eq_false_iff_ne]; omega, decide_eq_false (by omega), by rw [beq_eq_false_iff_ne]; omega, .inr ⟨rfl, rfl, rfl⟩⟩
      have HJ : Hid ((vWd g a N).judge (vHd 2 (stepN g d) 0) = J) := Lib.hid (by rw [← hJ]; exact HD.out d (by omega))
      have HSD := Lib.hid (HS3.out d hdb.1 hdb.2)
      have hld := lv d
      clear hJ
      have c2 : wr.cell? ⟨w.heap.size, 2, none⟩ = some (.int .u64 g) := hvr.out.vw.cell 2
      obtain ⟨H, hH9⟩ : ∃ H, wr.heap.size = H := ⟨_, rfl⟩
      have HH : Hid (w.heap.size < H ∧ R < H) := Lib.hid (by rw [← hH9]; exact ⟨hvr.out.lt, hbr.out.lt⟩)
      go_upto_region 13 with (go_at_call 36; (with_reducible refine (HSD.out _).mono ?_); rintro e wq ⟨rfl, rfl⟩)
      obtain ⟨W2, hW2⟩ : ∃ X, wr.alloc (.cells #[.int .i64 0, .int .i64 0, .int .i64 0, .int .i64 0, .int .i64 0, .int .i64 0, .int .i64 2, .bool true, .int .u64 (stepN g d : Nat), .int .u64 0, .int .u32 0, .int .i64 0, .int .u8 0, .int .u8 0, .int .u8 0, .slice none 0 0, .string ⟨#[]⟩] 68) = X := ⟨_, rfl⟩
      rw [hW2]
      (try rw [hH9])
      have HP2 : Hid (PkOf (vHd 2 (stepN g d) 0) ⟨#[]⟩ H W2) := Lib.hid (by rw [← hW2, ← hH9]; exact PkOf.made _ _ _)
      have HV2 : Hid (VwIn (vWd g a N) w W2) := Lib.hid (by rw [← hW2]; exact hvr.out.alloc _)
      have HB2 : Hid (BlkIs #[.int .i64 (lo - 1), .int .i64 lo, .int .i64 hi, .int .i64 (hi + 1)] 2 R W2) := Lib.hid (by rw [← hW2]; exact hbr.out.alloc _)
      clear hW2 hH9 c2 hvr hbr hcell
      have HCJ := Lib.hid (HC.out 2 (stepN g d) 0 J (by omega) (by decide) HJ.out)
      rcases hx with ⟨rfl, ⟨rfl, rfl⟩ | ⟨rfl, rfl⟩⟩ | ⟨rfl, rfl, rfl⟩
      all_goals
        go_wp2_with (first
          | (refine load_vw rfl _ rfl w.heap.size rfl (vWd g a N) HV2.out.vw ?_)
          | (refine load_pv rfl _ rfl H rfl (vHd 2 (stepN g d) 0) _ ⟨#[]⟩ HP2.out ?_)
          | (go_at_call 37; (with_reducible refine (HCJ.out _).mono ?_); rintro e wb ⟨rfl, hbb⟩))
        refine ⟨⟨i + 1, by go_num, by omega, Lib.hid (HV2.out.below hbb), Lib.hid (HB2.out.below hbb)⟩, ?_⟩
        simp [intOf]; omega
    · have di : decide ((i : Int) < 4) = false := decide_eq_false (by omega)
      go_wp2
      obtain ⟨R2, hR2⟩ : ∃ R, wr.heap.size = R := ⟨_, rfl⟩
      have HV8 := Lib.hid (hvr.out.alloc (.cells #[.int .i64 (-N), .int .i64 (1 - N), .int .i64 0, .int .i64 1] 2))
      have HB8 := Lib.hid (BlkIs.new #[.int .i64 (-N), .int .i64 (1 - N), .int .i64 0, .int .i64 1] 2 wr)
      have HR2 : Hid (w.heap.size < R2) := Lib.hid (by rw [← hR2]; exact hvr.out.lt)
      rw [hR2] at HB8
      (try rw [hR2])
      clear hR2 hvr hbr HR
      go_loopw [96] (fun iv wx => ∃ i : Nat, iv = .int .i64 (i : Int) ∧ i ≤ 4 ∧ Hid (VwIn (vWd g a N) w wx) ∧ Hid (BlkIs #[.int .i64 (-N), .int .i64 (1 - N), .int .i64 0, .int .i64 1] 2 R2 wx)) (fun iv _ => 4 - (intOf iv).toNat)
      case atStart => exact ⟨0, rfl, by decide, HV8, HB8⟩
      case round =>
        clear HV8 HB8
        obtain ⟨i, rfl, hi4, hvr, hbr⟩ := hrel
        by_cases hi3 : i < 4
        · have di : decide ((i : Int) < 4) = true := decide_eq_true (by omega)
          have d0 : (0 : Int) ≤ (i : Int) := by omega
          have di4 : (i : Int) < 4 := by omega
          obtain ⟨d, J, xL, xH, hcell, hdb, hJ, hL, hL2, hH, hH2, hx⟩ : ∃ (d : Int) (J : Int) (xL xH : Bool), wr.cell? ⟨R2, i, none⟩ = some (.int .i64 d) ∧ (-2000 ≤ d ∧ d ≤ 2000) ∧ (if 1 - N ≤ d ∧ d ≤ 0 then (1 : Int) else 2) = J ∧ decide (d = 0) = xL ∧ (d == 0) = xL ∧ decide (d = 1 - N) = xH ∧ (d == 1 - N) = xH ∧ ((J = 1 ∧ ((xL = true ∧ xH = false) ∨ (xL = false ∧ xH = true))) ∨ (J = 2 ∧ xL = false ∧ xH = false)) := by
            have : i = 0 ∨ i = 1 ∨ i = 2 ∨ i = 3 := by omega
            rcases this with rfl | rfl | rfl | rfl
            · exact ⟨-N, 2, false, false, hbr.out.cell 0, by omega, if_neg (by omega), decide_eq_false (by omega), by rw [beq_eq_false_iff_ne]; omega, decide_eq_false (by omega), by rw [beq_eq_false_iff_ne]; omega, .inr ⟨rfl, rfl, rfl⟩⟩
            · exact ⟨1 - N, 1, false, true, hbr.out.cell 1, by omega, if_pos (by omega), decide_eq_false (by omega), by rw [beq_eq_false_iff_ne]; omega, decide_eq_true rfl, by simp, .inl ⟨rfl, .inr ⟨rfl, rfl⟩⟩⟩
            · exact ⟨0, 1, true, false, hbr.out.cell 2, by omega, if_pos (by omega), decide_eq_true rfl, by simp, decide_eq_false (by omega), by rw [beq_eq_false_iff_ne]; omega, .inl ⟨rfl, .inl ⟨rfl, rfl⟩⟩⟩
            · exact ⟨1, 2, false, false, hbr.out.cell 3, by omega, if_neg (by omega), decide_eq_false (by omega), by rw [beq_eq_false_iff_ne]; omega, decide_eq_false (by omega), by rw [beq_eq_false_iff_ne]; omega, .inr ⟨rfl, rfl, rfl⟩⟩
          have HJ : Hid ((vWd g a N).judge (vHd 3 g (stepN a d)) = J) := Lib.hid (by rw [← hJ]; exact HK.out d (by omega))
          have HSD := Lib.hid (HS4.out d hdb.1 hdb.2)
          have hld := la d
          clear hJ
          go_upto_region 19 with fail
          obtain ⟨wy, hwy⟩ : ∃ X, wr = X := ⟨_, rfl⟩
          rw [hwy] at hvr hbr hcell ⊢
          clear hwy hcell
          apply wp_one_end
          case h1 =>
            refine wp_region_T (fun W => VwIn (vWd g a N) w W) 10 (by kernel_rfl) ?_
            have hS := hvr.out.drew
            refine wpAnyT_takeK (i := 0) (d := 100) (Op.fieldAddr 59 (Operand.tmp 2) 2) (.pointer (some ⟨w.heap.size, 2, none⟩)) (by kernel_rfl) (by kernel_rfl) (by kernel_rfl) (by kernel_rfl) (by kernel_rfl) (fun _ _ _ h => h) ?_ hS ?_
            · intro o ho W hW
              unfold execOp
              rw [ho]
              go_simp
            try simp only [Act.put, List.setIfInBounds_toArray, List.set_cons_zero, List.set_cons_succ]
            refine wpAnyT_takeK (i := 1) (d := 101) (Op.load 55 (Operand.tmp 100)) (.int .u64 g) (by kernel_rfl) (by kernel_rfl) (by kernel_rfl) (by kernel_rfl) (by kernel_rfl) (fun _ _ _ h => h) ?_ hS ?_
            · intro o ho W hW
              have c : W.cell? ⟨w.heap.size, 2, none⟩ = some (.int .u64 g) := (VwIn.vw hW).cell 2
              unfold execOp
              rw [ho]
              go_simp
            try simp only [Act.put, List.setIfInBounds_toArray, List.set_cons_zero, List.set_cons_succ]
            refine wpAnyT_takeK (i := 2) (d := 102) (Op.fieldAddr 59 (Operand.tmp 2) 1) (.pointer (some ⟨w.heap.size, 1, none⟩)) (by kernel_rfl) (by kernel_rfl) (by kernel_rfl) (by kernel_rfl) (by kernel_rfl) (fun _ _ _ h => h) ?_ hS ?_
            · intro o ho W hW
              unfold execOp
              rw [ho]
              go_simp
            try simp only [Act.put, List.setIfInBounds_toArray, List.set_cons_zero, List.set_cons_succ]
            refine wpAnyT_takeK (i := 3) (d := 103) (Op.load 55 (Operand.tmp 102)) (.int .u64 a) (by kernel_rfl) (by kernel_rfl) (by kernel_rfl) (by kernel_rfl) (by kernel_rfl) (fun _ _ _ h => h) ?_ hS ?_
            · intro o ho W hW
              have c : W.cell? ⟨w.heap.size, 1, none⟩ = some (.int .u64 a) := (VwIn.vw hW).cell 1
              unfold execOp
              rw [ho]
              go_simp
            try simp only [Act.put, List.setIfInBounds_toArray, List.set_cons_zero, List.set_cons_succ]
            refine wpAnyT_takeK (i := 4) (d := 104) (Op.move (Operand.tmp 13)) (.int .i64 d) (by kernel_rfl) (by kernel_rfl) (by kernel_rfl) (by kernel_rfl) (by kernel_rfl) (fun _ _ _ h => h) ?_ hS ?_
            · intro o ho W hW
              unfold execOp
              rw [ho]
              go_simp
            try simp only [Act.put, List.setIfInBounds_toArray, List.set_cons_zero, List.set_cons_succ]
            refine wpAnyT_ready (rs := [5, 8]) (by kernel_rfl) (by simp) ?_
            refine (AllReadyT.cons (o := { dst := some 105, op := Op.call { callee := Callee.value (Operand.func 36), args := #[Operand.tmp 103, Operand.tmp 104], argTypes := #[55, 2] }, type := 55, pos := "more.go:205", after := #[{ on := 3, ground := Ground.data }, { on := 4, ground := Ground.data }], guard := none }) (by kernel_rfl) (fun K hK => ?_) (AllReadyT.cons (o := { dst := some 14, op := Op.alloc 68, type := 0, pos := "more.go:205", after := #[], guard := none }) (by kernel_rfl) (fun K hK => ?_) AllReadyT.nil))
            · skip
              go_simp
              go_at_call 36
              with_reducible refine (HSD.out _).mono ?_
              rintro e wq ⟨rfl, rfl⟩
              refine hK.out _ _ (fun _ => hS) ?_
              clear hK K
              try simp only [Act.put, List.setIfInBounds_toArray, List.set_cons_zero, List.set_cons_succ]
              refine wpAnyT_takeK (i := 6) (d := 106) (Op.build 66 #[(6, Operand.const (Value.int IntKind.i64 3)), (7, Operand.const (Value.bool true)), (8, Operand.tmp 101), (9, Operand.tmp 105)]) (.agg #[.int .i64 0, .int .i64 0, .int .i64 0, .int .i64 0, .int .i64 0, .int .i64 0, .int .i64 3, .bool true, .int .u64 g, .int .u64 (stepN a d : Nat), .int .u32 0, .int .i64 0, .int .u8 0, .int .u8 0, .int .u8 0]) (by kernel_rfl) (by kernel_rfl) (by kernel_rfl) (by kernel_rfl) (by kernel_rfl) (fun _ _ _ h => h) ?_ hS ?_
              · intro o ho W hW
                unfold execOp
                rw [ho]
                go_simp
                (try rfl)
              try simp only [Act.put, List.setIfInBounds_toArray, List.set_cons_zero, List.set_cons_succ]
              refine wpAnyT_takeK (i := 7) (d := 107) (Op.build 68 #[(0, Operand.tmp 106)]) (Pv (vHd 3 g (stepN a d)) (.slice none 0 0) ⟨#[]⟩) (by kernel_rfl) (by kernel_rfl) (by kernel_rfl) (by kernel_rfl) (by kernel_rfl) (fun _ _ _ h => h) ?_ hS ?_
              · intro o ho W hW
                unfold execOp
                rw [ho]
                go_simp
                (try rfl)
              try simp only [Act.put, List.setIfInBounds_toArray, List.set_cons_zero, List.set_cons_succ]
              refine wpAnyT_ready (rs := [8]) (by kernel_rfl) (by simp) ?_
              refine (AllReadyT.cons (o := { dst := some 14, op := Op.alloc 68, type := 0, pos := "more.go:205", after := #[], guard := none }) (by kernel_rfl) (fun K hK => ?_) AllReadyT.nil)
              go_simp
              refine hK.out _ _ (fun _ => VwIn.alloc hS _) ?_
              have hZ := BlkIs.new pk00 68 wy.drew
              replace hS := VwIn.alloc hS (.cells pk00 68)
              clear hK K
              try simp only [Act.put, List.setIfInBounds_toArray, List.set_cons_zero, List.set_cons_succ]
              refine wpAnyT_ready (rs := [9]) (by kernel_rfl) (by simp) ?_
              refine (AllReadyT.cons (o := { dst := none, op := Op.store 68 (Operand.tmp 14) (Operand.tmp 107), type := 0, pos := "more.go:205", after := #[{ on := 8, ground := Ground.data }, { on := 7, ground := Ground.data }, { on := 5, ground := Ground.chain }, { on := 0, ground := Ground.phase }, { on := 1, ground := Ground.phase }, { on := 2, ground := Ground.phase }, { on := 3, ground := Ground.phase }, { on := 4, ground := Ground.phase }, { on := 5, ground := Ground.phase }, { on := 6, ground := Ground.phase }, { on := 7, ground := Ground.phase }, { on := 8, ground := Ground.phase }], guard := none }) (by kernel_rfl) (fun K hK => ?_) AllReadyT.nil)
              rw [if_pos (by rfl)]
              refine wp_store_row 68 _ _ rfl _ (pkCells (vHd 3 g (stepN a d)) (.slice none 0 0) ⟨#[]⟩) rfl rfl 68 pk00 hZ infoPk rfl (pkCells_one _ _ _ _ _) ?_
              refine hK.out _ _ (fun _ => VwIn.grown hS (grown_setRow _ _ _) hvr.out.lt) ?_
              clear hK K
              try simp only [Act.put, List.setIfInBounds_toArray, List.set_cons_zero, List.set_cons_succ]
              refine wpAnyT_done (by kernel_rfl) ?_ _
              exact ⟨rfl, rfl⟩
            · skip
              go_simp
              refine hK.out _ _ (fun _ => VwIn.alloc hS _) ?_
              have hZ := BlkIs.new pk00 68 wy.drew
              replace hS := VwIn.alloc hS (.cells pk00 68)
              clear hK K
              try simp only [Act.put, List.setIfInBounds_toArray, List.set_cons_zero, List.set_cons_succ]
              refine wpAnyT_ready (rs := [5]) (by kernel_rfl) (by simp) ?_
              refine (AllReadyT.cons (o := { dst := some 105, op := Op.call { callee := Callee.value (Operand.func 36), args := #[Operand.tmp 103, Operand.tmp 104], argTypes := #[55, 2] }, type := 55, pos := "more.go:205", after := #[{ on := 3, ground := Ground.data }, { on := 4, ground := Ground.data }], guard := none }) (by kernel_rfl) (fun K hK => ?_) AllReadyT.nil)
              go_simp
              go_at_call 36
              with_reducible refine (HSD.out _).mono ?_
              rintro e wq ⟨rfl, rfl⟩
              refine hK.out _ _ (fun _ => hS) ?_
              clear hK K
              try simp only [Act.put, List.setIfInBounds_toArray, List.set_cons_zero, List.set_cons_succ]
              refine wpAnyT_takeK (i := 6) (d := 106) (Op.build 66 #[(6, Operand.const (Value.int IntKind.i64 3)), (7, Operand.const (Value.bool true)), (8, Operand.tmp 101), (9, Operand.tmp 105)]) (.agg #[.int .i64 0, .int .i64 0, .int .i64 0, .int .i64 0, .int .i64 0, .int .i64 0, .int .i64 3, .bool true, .int .u64 g, .int .u64 (stepN a d : Nat), .int .u32 0, .int .i64 0, .int .u8 0, .int .u8 0, .int .u8 0]) (by kernel_rfl) (by kernel_rfl) (by kernel_rfl) (by kernel_rfl) (by kernel_rfl) (fun _ _ _ h => h) ?_ hS ?_
              · intro o ho W hW
                unfold execOp
                rw [ho]
                go_simp
                (try rfl)
              try simp only [Act.put, List.setIfInBounds_toArray, List.set_cons_zero, List.set_cons_succ]
              refine wpAnyT_takeK (i := 7) (d := 107) (Op.build 68 #[(0, Operand.tmp 106)]) (Pv (vHd 3 g (stepN a d)) (.slice none 0 0) ⟨#[]⟩) (by kernel_rfl) (by kernel_rfl) (by kernel_rfl) (by kernel_rfl) (by kernel_rfl) (fun _ _ _ h => h) ?_ hS ?_
              · intro o ho W hW
                unfold execOp
                rw [ho]
                go_simp
                (try rfl)
              try simp only [Act.put, List.setIfInBounds_toArray, List.set_cons_zero, List.set_cons_succ]
              refine wpAnyT_ready (rs := [9]) (by kernel_rfl) (by simp) ?_
              refine (AllReadyT.cons (o := { dst := none, op := Op.store 68 (Operand.tmp 14) (Operand.tmp 107), type := 0, pos := "more.go:205", after := #[{ on := 8, ground := Ground.data }, { on := 7, ground := Ground.data }, { on := 5, ground := Ground.chain }, { on := 0, ground := Ground.phase }, { on := 1, ground := Ground.phase }, { on := 2, ground := Ground.phase }, { on := 3, ground := Ground.phase }, { on := 4, ground := Ground.phase }, { on := 5, ground := Ground.phase }, { on := 6, ground := Ground.phase }, { on := 7, ground := Ground.phase }, { on := 8, ground := Ground.phase }], guard := none }) (by kernel_rfl) (fun K hK => ?_) AllReadyT.nil)
              rw [if_pos (by rfl)]
              refine wp_store_row 68 _ _ rfl _ (pkCells (vHd 3 g (stepN a d)) (.slice none 0 0) ⟨#[]⟩) rfl rfl 68 pk00 hZ infoPk rfl (pkCells_one _ _ _ _ _) ?_
              refine hK.out _ _ (fun _ => VwIn.grown hS (grown_setRow _ _ _) hvr.out.lt) ?_
              clear hK K
              try simp only [Act.put, List.setIfInBounds_toArray, List.set_cons_zero, List.set_cons_succ]
              refine wpAnyT_done (by kernel_rfl) ?_ _
              exact ⟨rfl, rfl⟩
          obtain ⟨H, hH9⟩ : ∃ H, wy.heap.size = H := ⟨_, rfl⟩
          have HH : Hid (w.heap.size < H ∧ R2 < H) := Lib.hid (by rw [← hH9]; exact ⟨hvr.out.lt, hbr.out.lt⟩)
          have hp7 := PkOf.fresh (vHd 3 g (stepN a d)) ⟨#[]⟩ wy
          have hv7 := hvr.out.below (PkOf.freshB (vHd 3 g (stepN a d)) ⟨#[]⟩ wy)
          have hb7 := hbr.out.below (PkOf.freshB (vHd 3 g (stepN a d)) ⟨#[]⟩ wy)
          obtain ⟨W7, hW7⟩ : ∃ X, (wy.alloc (.cells #[.int .i64 0, .int .i64 0, .int .i64 0, .int .i64 0, .int .i64 0, .int .i64 0, .int .i64 0, .bool false, .int .u64 0, .int .u64 0, .int .u32 0, .int .i64 0, .int .u8 0, .int .u8 0, .int .u8 0, .slice none 0 0, .string ⟨#[]⟩] 68)).drew.setRow wy.heap.size (pkCells (vHd 3 g (stepN a d)) (.slice none 0 0) ⟨#[]⟩) = X := ⟨_, rfl⟩
          rw [hW7] at hp7 hv7 hb7
          rw [hH9] at hp7
          (try rw [hW7])
          (try rw [hH9])
          have HP2 := Lib.hid hp7
          have HV2 := Lib.hid hv7
          have HB2 := Lib.hid hb7
          clear hp7 hv7 hb7 hW7 hH9 hvr hbr
          have HCJ := Lib.hid (HC.out 3 g (stepN a d) J (by omega) (by omega) HJ.out)
          rcases hx with ⟨rfl, ⟨rfl, rfl⟩ | ⟨rfl, rfl⟩⟩ | ⟨rfl, rfl, rfl⟩
          all_goals
            go_wp2_with (first
              | (refine load_vw rfl _ rfl w.heap.size rfl (vWd g a N) HV2.out.vw ?_)
              | (refine load_pv rfl _ rfl H rfl (vHd 3 g (stepN a d)) _ ⟨#[]⟩ HP2.out ?_)
              | (go_at_call 37; (with_reducible refine (HCJ.out _).mono ?_); rintro e wb ⟨rfl, hbb⟩))
            refine ⟨⟨i + 1, by go_num, by omega, Lib.hid (HV2.out.below hbb), Lib.hid (HB2.out.below hbb)⟩, ?_⟩
            simp [intOf]; omega
        · obtain rfl : i = 4 := by omega
          have c2 : wr.cell? ⟨w.heap.size, 2, none⟩ = some (.int .u64 g) := hvr.out.vw.cell 2
          go_wp2_with (first
            | (refine load_vw rfl _ rfl w.heap.size rfl (vWd g a N) hvr.out.vw ?_)
            | (go_at_call 53; (with_reducible refine (HRC.out _).mono ?_); rintro e wb ⟨rfl, hbb⟩))
          go_ret
          exact ⟨rfl, (hvr.out.below hbb).bel⟩
end Go.Proofs.YtnhlachoimlhhaaGreatDoor
