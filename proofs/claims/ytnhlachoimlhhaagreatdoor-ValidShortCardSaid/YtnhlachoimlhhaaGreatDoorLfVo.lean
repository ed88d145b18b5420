/-
  What the laws of package valid ask, in numbers.
  A drawn region in two stages, step by step: what reads and calls is taken while S holds; what writes comes behind, and need not keep S.
  Package valid: Answer, of packets without options; a view of a law's own.
  Two heads compared.
  An argument that is a view, opened.
  The law ValidShort, walked (its opening handed in).
-/
import Derived.Test.YtnhlachoimlhhaaGreatDoorVdM
import Derived.Deep.RegionHeld3
import Derived.Test.YtnhlachoimlhhaaGreatDoorVdB
import Derived.Test.YtnhlachoimlhhaaGreatDoorHdC
import Derived.Test.YtnhlachoimlhhaaGreatDoorArr3
import Derived.OpenShut
import Derived.ChangeSame
namespace Go.Proofs.YtnhlachoimlhhaaGreatDoor
open Go.ChangeShapes Go.WideShapes Go.ChangeAt Go.RowKit
set_option linter.unusedVariables false
set_option linter.unusedSimpArgs false

/-- A packet's head that has a type, long numbers, and nothing else. -/
def vHd (t : Int) (s a : Nat) : Hd := ⟨0, 0, 0, 0, 0, 0, t, true, s, a, 0, 0, 0, 0, 0⟩
theorem vHd_long (v : Vw) (t : Int) (s a : Nat) : v.long (vHd t s a) = vHd t s a := Vw.long_x rfl
/-! ### Both ends of the window -/
/-! ### Short numbers -/
theorem vs_long (v : Vw) (t : Int) (ht : t = 2 ∨ t = 3 ∨ t = 4) (d e : Int) (d1 : -100000 < d) (d2 : d < 100000) (e1 : -100000 < e) (e2 : e < 100000) :
    v.long { vHd t (stepN v.gsr d % 16777216) (if t = 2 then 0 else stepN v.gss e % 16777216) with x := false } = vHd t (stepN v.gsr d) (if t = 2 then 0 else stepN v.gss e) := by
  have h1 := long_near v.gsr d d1 d2
  have h2 := long_near v.gss e e1 e2
  unfold Vw.long
  rcases ht with rfl | rfl | rfl
  all_goals
    simp [vHd, hasAckB] at h1 h2 ⊢
    try simp [h1, h2]
end Go.Proofs.YtnhlachoimlhhaaGreatDoor

namespace Go.Proofs.YtnhlachoimlhhaaGreatDoor
set_option linter.unusedVariables false

section
variable {P : Program} {md : Region.Mode} {ops : Array Oper} {Q : Exit → Act → World → Prop} {S : World → Prop} {n : Nat}

/-- Whatever order is picked from here on; behind each of the first n operations S holds. -/
def wpAnyT (P : Program) (md : Region.Mode) (ops : Array Oper) (Q : Exit → Act → World → Prop) (S : World → Prop) (n : Nat) : Nat → Array Bool → Act → World → Prop
  | 0, listed, a, w => Region.ready md ops listed = [] ∧ Q .normal a w
  | fuel + 1, listed, a, w =>
    (Region.ready md ops listed = [] → Q .normal a w) ∧
    ∀ i ∈ Region.ready md ops listed, wpOp P ops Q i (fun a' w' => (i < n → S w') ∧ wpAnyT P md ops Q S n fuel (listed.setIfInBounds i true) a' w') a w

theorem wpAny_of_T : ∀ (fuel : Nat) (listed : Array Bool) (a : Act) (w : World), wpAnyT P md ops Q S n fuel listed a w → wpAny P md ops Q fuel listed a w
  | 0, _, _, _, h => h
  | fuel + 1, _, _, _, h => ⟨h.1, fun i hi => wpOp_mono (fun a' w' h' => wpAny_of_T fuel _ a' w' h'.2) (h.2 i hi)⟩

/-- An operation that may come up now may be taken first, if it yields its value in every world that meets R, and what can come ahead of it keeps R. -/
theorem wpAnyT_first (R : World → Prop) {i : Nat} {oi : Oper} {v : Value} (hi : ops[i]? = some oi) (hsel : ∀ (j : Nat) (o : Oper) cs b, ops[j]? = some o → o.op ≠ .select cs b)
    (hQ : ∀ c a w, Q (.panic c) (a.put oi.dst v) w → Q (.panic c) a w)
    (hRS : ∀ W, R W → i < n → S W) (hT : ∀ j oj, ops[j]? = some oj → (∀ e ∈ oj.after, Region.binds md e = true → e.on ≠ i) → ∀ W, (j < n → S W) → R W) :
    ∀ (fuel : Nat) (listed : Array Bool) (a : Act) (w : World),
      (∀ j oj, ops[j]? = some oj → j ≠ i → listed.getD j true = false → (∀ e ∈ oj.after, Region.binds md e = true → e.on ≠ i) → oi.apart ops oj = true) →
      i ∈ Region.ready md ops listed → YieldsIf P ops R oi v a → R w →
      wpAnyT P md ops Q S n fuel (listed.setIfInBounds i true) (a.put oi.dst v) w → wpAnyT P md ops Q S n (fuel + 1) listed a w := by
  intro fuel
  induction fuel with
  | zero =>
    intro listed a w _ hr hy hR H
    refine ⟨fun h => (by rw [h] at hr; cases hr), fun j hj => ?_⟩
    by_cases hji : j = i
    · subst hji; exact hy.wpOp hi hR ⟨hRS w hR, H⟩
    · have := ready_mono hj hji
      rw [H.1] at this
      cases this
  | succ fuel ih =>
    intro listed a w hfree hr hy hR H
    refine ⟨fun h => (by rw [h] at hr; cases hr), fun j hj => ?_⟩
    by_cases hji : j = i
    · subst hji; exact hy.wpOp hi hR ⟨hRS w hR, H⟩
    · have h1 := H.2 j (ready_mono hj hji)
      obtain ⟨hjun, oj, hoj, hall⟩ := mem_ready.1 hj
      have hnot : ∀ e ∈ oj.after, Region.binds md e = true → e.on ≠ i := fun e he hb heq => by
        have h1 := hall e he hb
        have h0 := (mem_ready.1 hr).1
        rw [heq] at h1
        rcases Nat.lt_or_ge i listed.size with h' | h'
        · simp [h'] at h0 h1; rw [h0] at h1; cases h1
        · simp [Array.getElem?_eq_none h'] at h1
      have h2 := wpOp_putIf hoj (hfree j oj hoj hji hjun hnot) (fun cs b => hsel i oi cs b hi) (fun cs b => hsel j oj cs b hoj) hQ hy h1
      have hfree' : ∀ k ok, ops[k]? = some ok → k ≠ i → (listed.setIfInBounds j true).getD k true = false →
          (∀ e ∈ ok.after, Region.binds md e = true → e.on ≠ i) → oi.apart ops ok = true := fun k ok hk hki hun hno => by
        refine hfree k ok hk hki ?_ hno
        by_cases hjk : j = k
        · subst hjk; exact hjun
        · rw [getD_set_ne true hjk] at hun; exact hun
      refine wpOp_mono (fun a' w' h3 => ⟨h3.2.1, ih (listed.setIfInBounds j true) a' w' hfree' (ready_mono hr (Ne.symm hji)) h3.1 (hT j oj hoj hnot w' h3.2.1) ?_⟩) h2
      rw [Array.setIfInBounds_comm _ _ hji]
      exact h3.2.2

/-- All from n on wait for operation i. -/
def waitsB (md : Region.Mode) (ops : Array Oper) (n i : Nat) : Bool :=
  (List.range ops.size).all fun t => decide (t < n) || (match ops[t]? with | some o => o.after.toList.any (fun e => Region.binds md e && decide (e.on = i)) | none => true)
theorem waits_spec {i : Nat} (hw : waitsB md ops n i = true) (j : Nat) (oj : Oper) (hj : ops[j]? = some oj) (hnot : ∀ e ∈ oj.after, Region.binds md e = true → e.on ≠ i) : j < n := by
  have hlt : j < ops.size := (Array.getElem?_eq_some_iff.1 hj).1
  have h := List.all_eq_true.1 hw j (List.mem_range.2 hlt)
  rw [hj] at h
  simp only [Bool.or_eq_true, decide_eq_true_eq] at h
  rcases h with h | h
  · exact h
  · obtain ⟨e, he, h2⟩ := List.any_eq_true.1 h
    simp only [Bool.and_eq_true, decide_eq_true_eq] at h2
    exact absurd h2.2 (hnot e (by simpa using he) h2.1)

/-- One of the first n, for which all behind them wait: it yields its value wherever S holds. -/
theorem wpAnyT_takeK {i d : Nat} (op : Op) (v : Value) {fuel : Nat} {listed : Array Bool} {a : Act} {w : World}
    (hk : (ops[i]?).map (fun o => (o.dst, o.op, Region.wanted o (yielded ops a.tmps))) = some (some d, op, true))
    (hs : Region.noSelect ops = true) (hf : Region.free md ops listed i = true) (hr : (Region.ready md ops listed).contains i = true) (hw : waitsB md ops n i = true)
    (hQ : ∀ c a w, Q (.panic c) (a.put (some d) v) w → Q (.panic c) a w)
    (hy : ∀ o : Oper, o.op = op → ∀ W, S W → (execOp a.eval o).run P W = .ok (.value v) W) (hS : S w)
    (h : wpAnyT P md ops Q S n fuel (listed.setIfInBounds i true) (a.put (some d) v) w) : wpAnyT P md ops Q S n (fuel + 1) listed a w := by
  cases ho : ops[i]? with
  | none => rw [ho] at hk; cases hk
  | some o =>
    rw [ho] at hk
    injection hk with hk
    injection hk with h1 h2
    injection h2 with h2 h3
    rw [← h1] at h hQ
    exact wpAnyT_first S ho (Region.noSelect_spec hs) hQ (fun _ hW _ => hW) (fun j oj hj hnot W hW => hW (waits_spec hw j oj hj hnot)) fuel listed a w (Region.free_spec ho hf) (by simpa using hr) (.inl ⟨h3, hy o h2⟩) hS h
/-- One of those behind them that looks at no memory. -/
theorem wpAnyT_tailK {i d : Nat} (op : Op) (v : Value) {fuel : Nat} {listed : Array Bool} {a : Act} {w : World}
    (hk : (ops[i]?).map (fun o => (o.dst, o.op, Region.wanted o (yielded ops a.tmps))) = some (some d, op, true))
    (hs : Region.noSelect ops = true) (hf : Region.free md ops listed i = true) (hr : (Region.ready md ops listed).contains i = true) (hn : n ≤ i)
    (hQ : ∀ c a w, Q (.panic c) (a.put (some d) v) w → Q (.panic c) a w)
    (hy : ∀ o : Oper, o.op = op → ∀ W, (execOp a.eval o).run P W = .ok (.value v) W)
    (h : wpAnyT P md ops Q S n fuel (listed.setIfInBounds i true) (a.put (some d) v) w) : wpAnyT P md ops Q S n (fuel + 1) listed a w := by
  cases ho : ops[i]? with
  | none => rw [ho] at hk; cases hk
  | some o =>
    rw [ho] at hk
    injection hk with hk
    injection hk with h1 h2
    injection h2 with h2 h3
    rw [← h1] at h hQ
    exact wpAnyT_first (fun _ => True) ho (Region.noSelect_spec hs) hQ (fun _ _ hi => absurd hi (Nat.not_lt.2 hn)) (fun _ _ _ _ _ _ => trivial) fuel listed a w (Region.free_spec ho hf) (by simpa using hr) (.inl ⟨h3, fun W _ => hy o h2 W⟩) trivial h

def AllReadyT (P : Program) (md : Region.Mode) (ops : Array Oper) (Q : Exit → Act → World → Prop) (S : World → Prop) (n : Nat) (fuel : Nat) (listed : Array Bool) (a : Act) (w : World) (rs : List Nat) : Prop :=
  ∀ i ∈ rs, wpOp P ops Q i (fun a' w' => (i < n → S w') ∧ wpAnyT P md ops Q S n fuel (listed.setIfInBounds i true) a' w') a w
theorem AllReadyT.nil {fuel : Nat} {listed : Array Bool} {a : Act} {w : World} : AllReadyT P md ops Q S n fuel listed a w [] := fun _ h => by cases h
theorem AllReadyT.cons {fuel : Nat} {listed : Array Bool} {a : Act} {w : World} {i : Nat} {o : Oper} {rs : List Nat} (ho : ops[i]? = some o)
    (h : ∀ K' : Act → World → Prop, Shut (∀ a w, (i < n → S w) → wpAnyT P md ops Q S n fuel (listed.setIfInBounds i true) a w → K' a w) → if Region.wanted o (yielded ops a.tmps) = true then Oper.wp P o a w K' Q else K' (a.put o.dst undef) w)
    (hs : AllReadyT P md ops Q S n fuel listed a w rs) : AllReadyT P md ops Q S n fuel listed a w (i :: rs) := fun j hj => by
  rcases List.mem_cons.1 hj with rfl | hj
  · exact wpOp_step ho (fun K' hK => h K' (fun a w hS hW => hK a w ⟨hS, hW⟩))
  · exact hs j hj
theorem wpAnyT_ready {rs : List Nat} {fuel : Nat} {listed : Array Bool} {a : Act} {w : World} (hr : Region.ready md ops listed = rs) (hne : rs ≠ [])
    (h : AllReadyT P md ops Q S n fuel listed a w rs) : wpAnyT P md ops Q S n (fuel + 1) listed a w := ⟨fun h0 => absurd (hr ▸ h0) hne, hr ▸ h⟩
theorem wpAnyT_done {listed : Array Bool} {a : Act} {w : World} (hr : Region.ready md ops listed = []) (h : Q .normal a w) :
    ∀ fuel, wpAnyT P md ops Q S n fuel listed a w
  | 0 => ⟨hr, h⟩
  | _ + 1 => ⟨fun _ => h, by rw [hr]; simp⟩
theorem wp_region_T (S : World → Prop) (n : Nat) {id : Nat} {a : Act} {w : World} (hm : P.follows .mixedOrders = true)
    (h : wpAnyT P .any ops Q S n ops.size (Array.replicate ops.size false) a w.drew) : (Code.region id ops true).wp P Q a w :=
  wp_region_any hm (wpAny_of_T _ _ _ _ h)
end
end Go.Proofs.YtnhlachoimlhhaaGreatDoor

namespace Go.Proofs.YtnhlachoimlhhaaGreatDoor
open Go.ChangeShapes Go.WideShapes Go.ChangeAt Go.RowKit
set_option linter.unusedVariables false
set_option linter.unusedSimpArgs false

/-- A view boxed at the law's beginning. -/
structure VwIn (v : Vw) (w W : World) : Prop where
  vw : BlkIs (vwCells v) 59 w.heap.size W
  bel : Below w.heap.size w W
theorem VwIn.new (v : Vw) (w : World) : ∃ W, w.alloc (.cells #[.int .i64 v.state, .int .u64 v.gss, .int .u64 v.gsr, .int .u64 v.gar, .int .u64 v.iss, .int .u64 v.isr, .int .i64 v.mine, .int .i64 v.theirs] 59) = W ∧ VwIn v w W :=
  ⟨_, rfl, BlkIs.new (vwCells v) _ w, bel_alloc _ _⟩
theorem VwIn.set {v v2 : Vw} {w W : World} (a : VwIn v w W) (i : Nat) (x : Value) (e : (vwCells v).setIfInBounds i x = vwCells v2) : VwIn v2 w (W.setCell ⟨w.heap.size, i, none⟩ x) :=
  ⟨by rw [← e]; exact a.vw.set i x, a.bel.setCell (p := ⟨w.heap.size, i, none⟩) (Nat.le_refl _) _⟩
theorem VwIn.below {v : Vw} {w W W' : World} (a : VwIn v w W) (b : Below W.heap.size W W') : VwIn v w W' := ⟨a.vw.below b, bel_trans a.bel b⟩
theorem VwIn.drew {v : Vw} {w W : World} (a : VwIn v w W) : VwIn v w W.drew := a.below (bel_drewN _ 1)
theorem VwIn.alloc {v : Vw} {w W : World} (a : VwIn v w W) (o : Obj) : VwIn v w (W.alloc o) := a.below (bel_alloc _ _)
theorem VwIn.far {v : Vw} {w W : World} (a : VwIn v w W) {p : Addr} (hp : w.heap.size < p.block) (x : Value) : VwIn v w (W.setCell p x) :=
  ⟨a.vw.far (by omega) x, a.bel.setCell (p := p) (Nat.le_of_lt hp) _⟩
theorem VwIn.grown {v : Vw} {w W W' : World} {g : Nat} (a : VwIn v w W) (hg : W.grownBy W' (some g)) (h : w.heap.size < g) : VwIn v w W' :=
  ⟨a.vw.grown hg (by simp; omega), a.bel.grown hg a.bel.size (fun k hk => by cases hk; omega)⟩
theorem VwIn.lt {v : Vw} {w W : World} (a : VwIn v w W) : w.heap.size < W.heap.size := a.vw.lt
/-- A packet of the law's own, without options. -/
def PkOf (h : Hd) (s : ByteArray) (H : Nat) (W : World) : Prop := BlkIs (pkCells h (.slice none 0 0) s) 68 H W
theorem PkOf.below {h : Hd} {s : ByteArray} {H : Nat} {W W' : World} (a : PkOf h s H W) (b : Below W.heap.size W W') : PkOf h s H W' := BlkIs.below a b
theorem PkOf.set {h h2 : Hd} {s : ByteArray} {H : Nat} {W : World} (a : PkOf h s H W) (i : Nat) (x : Value) (e : (pkCells h (.slice none 0 0) s).setIfInBounds i x = pkCells h2 (.slice none 0 0) s) : PkOf h2 s H (W.setCell ⟨H, i, none⟩ x) := by
  unfold PkOf; rw [← e]; exact BlkIs.set a i x
theorem PkOf.far {h : Hd} {s : ByteArray} {H : Nat} {W : World} (a : PkOf h s H W) {p : Addr} (hp : H ≠ p.block) (x : Value) : PkOf h s H (W.setCell p x) := BlkIs.far a hp x
theorem PkOf.grown {h : Hd} {s : ByteArray} {H g : Nat} {W W' : World} (a : PkOf h s H W) (hg : W.grownBy W' (some g)) (hne : H ≠ g) : PkOf h s H W' := BlkIs.grown a hg (by simp; omega)
theorem pk_fresh_at (w : World) (H : Nat) (hH : w.heap.size = H) : PkBlk Hd.zero (.slice none 0 0) ⟨#[]⟩ H (w.alloc pk0) := by subst hH; exact pk_new w
theorem PkOf.made (h : Hd) (s : ByteArray) (W : World) : PkOf h s W.heap.size (W.alloc (.cells (pkCells h (.slice none 0 0) s) 68)) := BlkIs.new _ _ W

/-- A head at the beginning of a packet, loaded. -/
theorem exec_load_hdp {o : Oper} {ev : Operand → Value} {w : World} (x : Operand) (ho : o.op = .load 66 x) (B : Nat) (hx : ev x = .pointer (some ⟨B, 0, none⟩)) (h : Hd) (v : Value) (s : ByteArray) (hb : PkBlk h v s B w) :
    (execOp ev o).run Tryz.prog w = .ok (.value h.val) w := by
  unfold execOp
  simp only [ho, hx, Instr.loadAt, Instr.sureAddr, Sem.run_bind, Sem.run_pure, Result.andThen_ok, run_loadVar_mid w B 0 66 h.cellsA.toList _ hb.range Tryz.underlying66 rfl infoHd]
  rfl
end Go.Proofs.YtnhlachoimlhhaaGreatDoor

namespace Go.Proofs.YtnhlachoimlhhaaGreatDoor
open Go.ChangeShapes Go.WideShapes Go.ChangeAt Go.RowKit
set_option linter.unusedVariables false

/-- Are two heads one? -/
def Hd.eqB (g h : Hd) : Bool :=
  decide (g.src = h.src) && (decide (g.dst = h.dst) && (decide (g.off = h.off) && (decide (g.cc = h.cc) && (decide (g.cs = h.cs) && (decide (g.sum = h.sum) && (decide (g.type = h.type) && ((g.x == h.x) && (decide (g.seq = h.seq) && (decide (g.ack = h.ack) && (decide (g.service = h.service) && (decide (g.code = h.code) && decide (g.i0 = h.i0 ∧ g.i1 = h.i1 ∧ g.i2 = h.i2))))))))))))
theorem Hd.eqB_iff (g h : Hd) : g.eqB h = true ↔ g = h := by
  unfold Hd.eqB
  cases g; cases h
  simp

theorem part_hd (v0 v1 v2 v3 v4 v5 v6 v7 v8 v9 v10 v11 v12 v13 v14 : Value) (w : World) :
    (part 3 #[v0, v1, v2, v3, v4, v5, v6, v7, v8, v9, v10, v11, v12, v13, v14] 0).run Tryz.prog w = .ok v0 w ∧
    (part 3 #[v0, v1, v2, v3, v4, v5, v6, v7, v8, v9, v10, v11, v12, v13, v14] 1).run Tryz.prog w = .ok v1 w ∧
    (part 3 #[v0, v1, v2, v3, v4, v5, v6, v7, v8, v9, v10, v11, v12, v13, v14] 2).run Tryz.prog w = .ok v2 w ∧
    (part 3 #[v0, v1, v2, v3, v4, v5, v6, v7, v8, v9, v10, v11, v12, v13, v14] 3).run Tryz.prog w = .ok v3 w ∧
    (part 3 #[v0, v1, v2, v3, v4, v5, v6, v7, v8, v9, v10, v11, v12, v13, v14] 4).run Tryz.prog w = .ok v4 w ∧
    (part 3 #[v0, v1, v2, v3, v4, v5, v6, v7, v8, v9, v10, v11, v12, v13, v14] 5).run Tryz.prog w = .ok v5 w ∧
    (part 3 #[v0, v1, v2, v3, v4, v5, v6, v7, v8, v9, v10, v11, v12, v13, v14] 6).run Tryz.prog w = .ok v6 w ∧
    (part 4 #[v0, v1, v2, v3, v4, v5, v6, v7, v8, v9, v10, v11, v12, v13, v14] 7).run Tryz.prog w = .ok v7 w ∧
    (part 55 #[v0, v1, v2, v3, v4, v5, v6, v7, v8, v9, v10, v11, v12, v13, v14] 8).run Tryz.prog w = .ok v8 w ∧
    (part 55 #[v0, v1, v2, v3, v4, v5, v6, v7, v8, v9, v10, v11, v12, v13, v14] 9).run Tryz.prog w = .ok v9 w ∧
    (part 63 #[v0, v1, v2, v3, v4, v5, v6, v7, v8, v9, v10, v11, v12, v13, v14] 10).run Tryz.prog w = .ok v10 w ∧
    (part 3 #[v0, v1, v2, v3, v4, v5, v6, v7, v8, v9, v10, v11, v12, v13, v14] 11).run Tryz.prog w = .ok v11 w ∧
    (part 64 #[v0, v1, v2, v3, v4, v5, v6, v7, v8, v9, v10, v11, v12, v13, v14] 12).run Tryz.prog w = .ok (.agg #[v12, v13, v14]) w :=
  ⟨by kernel_rfl, by kernel_rfl, by kernel_rfl, by kernel_rfl, by kernel_rfl, by kernel_rfl, by kernel_rfl, by kernel_rfl, by kernel_rfl, by kernel_rfl, by kernel_rfl, by kernel_rfl, by kernel_rfl⟩

theorem eqF_cons {P : Program} {w : World} {d : Nat} {xs ys : Array Value} {f : Field} {fs : List Field} {a b : Value} {r c : Bool} (hn : (f.name ≠ "_") = True) (pa : (part f.type xs f.offset).run P w = .ok a w) (pb : (part f.type ys f.offset).run P w = .ok b w)
    (e : (Op.equalIn d f.type a b).run P w = .ok r w) (t : (Op.eqFields d xs ys fs).run P w = .ok c w) : (Op.eqFields d xs ys (f :: fs)).run P w = .ok (r && c) w := by
  unfold Op.eqFields
  rw [if_pos (by rw [hn]; trivial)]
  simp only [Sem.run_bind, pa, pb, e, Result.andThen_ok, Sem.run_ite, t, Sem.run_pure]
  cases r <;> rfl
theorem eqF_nil {P : Program} {w : World} {d : Nat} {xs ys : Array Value} : (Op.eqFields d xs ys []).run P w = .ok true w := rfl

set_option maxRecDepth 100000 in
theorem equalHd (g h : Hd) (w : World) : (Op.equalIn 10000 66 g.val h.val).run Tryz.prog w = .ok (g.eqB h) w := by
  have E : g.eqB h = ((g.src == h.src) && ((g.dst == h.dst) && ((g.off == h.off) && ((g.cc == h.cc) && ((g.cs == h.cs) && ((g.sum == h.sum) && ((g.type == h.type) && ((g.x == h.x) && (((g.seq : Int) == h.seq) && (((g.ack : Int) == h.ack) && (((g.service : Int) == h.service) && ((g.code == h.code) && (((g.i0 : Int) == h.i0 && ((g.i1 : Int) == h.i1 && (g.i2 : Int) == h.i2)) && true))))))))))))) := by
    unfold Hd.eqB
    rw [Bool.eq_iff_iff]
    simp
    intros
    omega
  rw [E]
  clear E
  unfold Hd.val
  rw [show (10000 : Nat) = 9997 + 1 + 1 + 1 from rfl, run_equalIn_struct w _ _ _ _ Tryz.underlying66 (by kernel_rfl)]
  have q3 := fun (a b c x y z : Int) (w : World) => equalIn3 9997 a b c x y z w
  have qi := fun (m n : Int) (w : World) => run_equalIn_int (P := Tryz.prog) w (9997 + 1) 3 .i64 .i64 m n Tryz.underlying3
  have q64 := fun (m n : Int) (w : World) => run_equalIn_int (P := Tryz.prog) w (9997 + 1) 55 .u64 .u64 m n Tryz.underlying55
  have q32 := fun (m n : Int) (w : World) => run_equalIn_int (P := Tryz.prog) w (9997 + 1) 63 .u32 .u32 m n Tryz.underlying63
  have qb := fun (m n : Bool) (w : World) => run_equalIn_bool' (P := Tryz.prog) w (9997 + 1) 4 m n Tryz.underlying4
  generalize 9997 + 1 + 1 = d at *
  simp only [Program.fieldsOf, Tryz.underlying66]
  obtain ⟨a0, a1, a2, a3, a4, a5, a6, a7, a8, a9, a10, a11, a12⟩ := part_hd (.int .i64 g.src) (.int .i64 g.dst) (.int .i64 g.off) (.int .i64 g.cc) (.int .i64 g.cs) (.int .i64 g.sum) (.int .i64 g.type) (.bool g.x) (.int .u64 g.seq) (.int .u64 g.ack) (.int .u32 g.service) (.int .i64 g.code) (.int .u8 g.i0) (.int .u8 g.i1) (.int .u8 g.i2) w
  obtain ⟨b0, b1, b2, b3, b4, b5, b6, b7, b8, b9, b10, b11, b12⟩ := part_hd (.int .i64 h.src) (.int .i64 h.dst) (.int .i64 h.off) (.int .i64 h.cc) (.int .i64 h.cs) (.int .i64 h.sum) (.int .i64 h.type) (.bool h.x) (.int .u64 h.seq) (.int .u64 h.ack) (.int .u32 h.service) (.int .i64 h.code) (.int .u8 h.i0) (.int .u8 h.i1) (.int .u8 h.i2) w
  refine eqF_cons (by simp) a0 b0 (qi _ _ w) ?_
  refine eqF_cons (by simp) a1 b1 (qi _ _ w) ?_
  refine eqF_cons (by simp) a2 b2 (qi _ _ w) ?_
  refine eqF_cons (by simp) a3 b3 (qi _ _ w) ?_
  refine eqF_cons (by simp) a4 b4 (qi _ _ w) ?_
  refine eqF_cons (by simp) a5 b5 (qi _ _ w) ?_
  refine eqF_cons (by simp) a6 b6 (qi _ _ w) ?_
  refine eqF_cons (by simp) a7 b7 (qb _ _ w) ?_
  refine eqF_cons (by simp) a8 b8 (q64 _ _ w) ?_
  refine eqF_cons (by simp) a9 b9 (q64 _ _ w) ?_
  refine eqF_cons (by simp) a10 b10 (q32 _ _ w) ?_
  refine eqF_cons (by simp) a11 b11 (qi _ _ w) ?_
  refine eqF_cons (by simp) a12 b12 (q3 _ _ _ _ _ _ w) ?_
  exact eqF_nil
/-- '==' of heads. -/
theorem eqlHd (g h : Hd) (w : World) : (binOp .eql 66 g.val h.val).run Tryz.prog w = .ok (.bool (g.eqB h)) w := by
  have e := equalHd g h w
  unfold Hd.val at e ⊢
  rw [run_eql_struct, e]; rfl
theorem guardHd2 (op : BinOp) (x y : Operand) (g h : Hd) (w : World) : (eqGuard op 66 x y g.val h.val).run Tryz.prog w = .ok () w :=
  run_eqGuard_agg w op _ x y _ _ (by kernel_rfl)
end Go.Proofs.YtnhlachoimlhhaaGreatDoor

namespace Go.Proofs.YtnhlachoimlhhaaGreatDoor
open Go.ChangeShapes Go.WideShapes Go.RowKit
set_option linter.unusedVariables false

theorem int_cellV {H : Type} {enc : TypeId × Value → H} {P : Program} {W : World} {base : Nat} {sp : Nat → Bool} {held : Bool} {n : Nat} {t : TypeId} {k : IntKind} {v : Value} {o : Option (DataW H × List MemPlace)}
    (ht : P.underlying t = some (.int k)) (hn : o ≠ none) (h : DataW.trod enc P W base sp held n t [v] = o) : ∃ z, v = .int k z ∧ (Lit.int k z).wf = true := by
  cases o with
  | none => exact absurd rfl hn
  | some x =>
    obtain ⟨z, hz, _, hw⟩ := DataW.trod_int ht h
    simp at hz
    exact ⟨z, hz, hw⟩
theorem some_atV {α : Type} {l : List α} {i : Nat} (h : i < l.length) : l[i]? ≠ none := by
  rw [List.getElem?_eq_getElem h]; exact fun e => by cases e
set_option maxRecDepth 100000 in
set_option maxHeartbeats 2000000 in
theorem open_vcells {H : Type} {enc : TypeId × Value → H} {W : World} {base : Nat} {sp : Nat → Bool} {held : Bool} {fuel : Nat} {cs : List Value} {x : DataW H × List MemPlace}
    (h : DataW.trod enc Tryz.prog W base sp held fuel 59 cs = some x) : ∃ g : Vw, cs = (vwCells g).toList ∧ g.Ok := by
  obtain ⟨ys, n, hn, _, hlen, hyl, hf⟩ := DataW.trod_struct Tryz.underlying59 h
  have hC : Tryz.prog.cellsOf 59 = 8 := by kernel_rfl
  rw [hC] at hlen
  have hy : ys.length = 8 := hyl
  match cs, hlen with
  | [c0, c1, c2, c3, c4, c5, c6, c7], _ =>
    have f0 : DataW.trod enc Tryz.prog W base sp held n 3 [c0] = ys[0]? := hf 0 _ rfl
    have f1 : DataW.trod enc Tryz.prog W base sp held n 55 [c1] = ys[1]? := hf 1 _ rfl
    have f2 : DataW.trod enc Tryz.prog W base sp held n 55 [c2] = ys[2]? := hf 2 _ rfl
    have f3 : DataW.trod enc Tryz.prog W base sp held n 55 [c3] = ys[3]? := hf 3 _ rfl
    have f4 : DataW.trod enc Tryz.prog W base sp held n 55 [c4] = ys[4]? := hf 4 _ rfl
    have f5 : DataW.trod enc Tryz.prog W base sp held n 55 [c5] = ys[5]? := hf 5 _ rfl
    have f6 : DataW.trod enc Tryz.prog W base sp held n 3 [c6] = ys[6]? := hf 6 _ rfl
    have f7 : DataW.trod enc Tryz.prog W base sp held n 3 [c7] = ys[7]? := hf 7 _ rfl
    obtain ⟨z0, rfl, w0⟩ := int_cellV Tryz.underlying3 (some_atV (by omega)) f0
    obtain ⟨z1, rfl, w1⟩ := int_cellV Tryz.underlying55 (some_atV (by omega)) f1
    obtain ⟨z2, rfl, w2⟩ := int_cellV Tryz.underlying55 (some_atV (by omega)) f2
    obtain ⟨z3, rfl, w3⟩ := int_cellV Tryz.underlying55 (some_atV (by omega)) f3
    obtain ⟨z4, rfl, w4⟩ := int_cellV Tryz.underlying55 (some_atV (by omega)) f4
    obtain ⟨z5, rfl, w5⟩ := int_cellV Tryz.underlying55 (some_atV (by omega)) f5
    obtain ⟨z6, rfl, w6⟩ := int_cellV Tryz.underlying3 (some_atV (by omega)) f6
    obtain ⟨z7, rfl, w7⟩ := int_cellV Tryz.underlying3 (some_atV (by omega)) f7
    have b1 := bounds_u64 w1
    have b2 := bounds_u64 w2
    have b3 := bounds_u64 w3
    have b4 := bounds_u64 w4
    have b5 := bounds_u64 w5
    obtain ⟨n1, rfl⟩ := Int.eq_ofNat_of_zero_le b1.1
    obtain ⟨n2, rfl⟩ := Int.eq_ofNat_of_zero_le b2.1
    obtain ⟨n3, rfl⟩ := Int.eq_ofNat_of_zero_le b3.1
    obtain ⟨n4, rfl⟩ := Int.eq_ofNat_of_zero_le b4.1
    obtain ⟨n5, rfl⟩ := Int.eq_ofNat_of_zero_le b5.1
    exact ⟨⟨z0, n1, n2, n3, n4, n5, z6, z7⟩, rfl, ⟨by show n1 < _; omega, by show n2 < _; omega, by show n3 < _; omega, by show n4 < _; omega, by show n5 < _; omega, bounds_i64 w6, bounds_i64 w7⟩⟩

set_option maxRecDepth 100000 in
theorem open_view {H : Type} {enc : TypeId × Value → H} {W : World} {r : Reach} {b0 : Nat} {sp : Nat → Bool} {held : Bool} {v : Value} {d : DataW H} {q : List MemPlace}
    (hv : Value.okWide Tryz.prog W r b0 59 v) (h : DataW.Trod enc Tryz.prog W 0 sp held 59 v d q) : ∃ g : Vw, v = g.val ∧ g.Ok := by
  obtain ⟨cs, rfl, hsz⟩ := okWide_struct Tryz.underlying59 hv
  obtain ⟨fuel, hf⟩ := h
  obtain ⟨g, hg, h1⟩ := open_vcells hf
  refine ⟨g, ?_, h1⟩
  have e : cs.toList = (vwCells g).toList := hg
  rw [Array.toList_inj] at e
  rw [e]; rfl
end Go.Proofs.YtnhlachoimlhhaaGreatDoor

namespace Go.Proofs.YtnhlachoimlhhaaGreatDoor
open Go.ChangeShapes Go.WideShapes Go.ChangeAt Go.RowKit
set_option linter.unusedVariables false
set_option linter.unusedSimpArgs false

set_option maxHeartbeats 16000000 in
set_option maxRecDepth 100000 in
theorem validShort_walk (v : Vw) (hv : v.Ok) (tz dz ez : Int) (t1 : -9223372036854775808 ≤ tz) (t2 : tz ≤ 9223372036854775807) (d1 : -9223372036854775808 ≤ dz) (d2 : dz ≤ 9223372036854775807) (e1 : -9223372036854775808 ≤ ez) (e2 : ez ≤ 9223372036854775807) (w : World)
    (hbg : ∀ W, Below w.heap.size w W → Calls Tryz.prog 14 #[] W fun e w' => e = .returned (.bool true) ∧ Below W.heap.size W w') :
    Calls Tryz.prog 13 #[v.val, .int .i64 tz, .int .i64 dz, .int .i64 ez] w fun e w' => e = .returned (.bool true) ∧ Below w.heap.size w w' := by
  have HBG := Lib.hid hbg
  clear hbg
  obtain ⟨u0, e0, e01, e02, S0, e03, e04⟩ := mod_at tz 3 (by decide)
  obtain ⟨D, hD, hD1, hD2, _⟩ := mod_at dz 100000 (by decide)
  obtain ⟨E, hE, hE1, hE2, _⟩ := mod_at ez 100000 (by decide)
  obtain ⟨g, hg⟩ : ∃ g, v.gsr % 281474976710656 = g := ⟨_, rfl⟩
  obtain ⟨a, ha⟩ : ∃ a, v.gss % 281474976710656 = a := ⟨_, rfl⟩
  have hgb : g < 281474976710656 := by omega
  have hab : a < 281474976710656 := by omega
  have HQ1 : Hid (∀ W, Calls Tryz.prog 35 #[.int .u64 v.gsr] W fun e w' => e = .returned (.int .u64 (g : Nat)) ∧ W = w') := Lib.hid (fun W => by rw [← hg]; exact refSeq_any v.gsr hv.gsr W)
  have HQ2 : Hid (∀ W, Calls Tryz.prog 35 #[.int .u64 v.gss] W fun e w' => e = .returned (.int .u64 (a : Nat)) ∧ W = w') := Lib.hid (fun W => by rw [← ha]; exact refSeq_any v.gss hv.gss W)
  obtain ⟨q, hX3⟩ : ∃ x, v.gar % 281474976710656 = x := ⟨_, rfl⟩
  have hXb3 : q < 281474976710656 := by omega
  have HQ3 : Hid (∀ W, Calls Tryz.prog 35 #[.int .u64 v.gar] W fun e w' => e = .returned (.int .u64 (q : Nat)) ∧ W = w') := Lib.hid (fun W => by rw [← hX3]; exact refSeq_any v.gar hv.gar W)
  obtain ⟨i0, hX4⟩ : ∃ x, v.iss % 281474976710656 = x := ⟨_, rfl⟩
  have hXb4 : i0 < 281474976710656 := by omega
  have HQ4 : Hid (∀ W, Calls Tryz.prog 35 #[.int .u64 v.iss] W fun e w' => e = .returned (.int .u64 (i0 : Nat)) ∧ W = w') := Lib.hid (fun W => by rw [← hX4]; exact refSeq_any v.iss hv.iss W)
  obtain ⟨r0, hX5⟩ : ∃ x, v.isr % 281474976710656 = x := ⟨_, rfl⟩
  have hXb5 : r0 < 281474976710656 := by omega
  have HQ5 : Hid (∀ W, Calls Tryz.prog 35 #[.int .u64 v.isr] W fun e w' => e = .returned (.int .u64 (r0 : Nat)) ∧ W = w') := Lib.hid (fun W => by rw [← hX5]; exact refSeq_any v.isr hv.isr W)
  obtain ⟨T, hT⟩ : ∃ T : Int, (S0 : Int) + 2 = T := ⟨_, rfl⟩
  have hT2 : 2 ≤ T := by omega
  have hT9 : T ≤ 4 := by omega
  have s00 : (0 : Int) ≤ (S0 : Int) := by omega
  obtain ⟨s, hs⟩ : ∃ s, stepN g D = s := ⟨_, rfl⟩
  obtain ⟨k, hk⟩ : ∃ k, stepN a E = k := ⟨_, rfl⟩
  have hsb : s < 281474976710656 := by rw [← hs]; exact stepN_lt g D
  have hkb : k < 281474976710656 := by rw [← hk]; exact stepN_lt a E
  have HS1 : Hid (∀ W, Calls Tryz.prog 36 #[.int .u64 g, .int .i64 D] W fun e w' => e = .returned (.int .u64 (s : Nat)) ∧ W = w') := Lib.hid (fun W => by rw [← hs, stepN_int]; exact refStep_any g D (by omega) (by omega) (by omega) W)
  have HS2 : Hid (∀ W, Calls Tryz.prog 36 #[.int .u64 a, .int .i64 E] W fun e w' => e = .returned (.int .u64 (k : Nat)) ∧ W = w') := Lib.hid (fun W => by rw [← hk, stepN_int]; exact refStep_any a E (by omega) (by omega) (by omega) W)
  obtain ⟨s2, hs2⟩ : ∃ x, s % 16777216 = x := ⟨_, rfl⟩
  obtain ⟨k2, hk2⟩ : ∃ x, k % 16777216 = x := ⟨_, rfl⟩
  have x1 : (s : Int) % 16777216 = (s2 : Int) := by omega
  have x2 : (s : Int).tmod 16777216 = (s2 : Int) := by rw [Int.tmod_eq_emod_of_nonneg (by omega)]; exact x1
  have x3 : (k : Int) % 16777216 = (k2 : Int) := by omega
  have x4 : (k : Int).tmod 16777216 = (k2 : Int) := by rw [Int.tmod_eq_emod_of_nonneg (by omega)]; exact x3
  have hvk : (Vw.mk 5 a g q i0 r0 v.mine v.theirs).Ok := ⟨by show a < _; omega, by show g < _; omega, by show q < _; omega, by show i0 < _; omega, by show r0 < _; omega, hv.mine, hv.theirs⟩
  have HC : Hid (∀ (t : Int) (s k : Nat), s < 18446744073709551616 → k < 18446744073709551616 → ∀ W, Calls Tryz.prog 37 #[(Vw.mk 5 a g q i0 r0 v.mine v.theirs).val, Pv (vHd t s k) (.slice none 0 0) ⟨#[120]⟩] W fun e w' => e = .returned (.int .i64 ((Vw.mk 5 a g q i0 r0 v.mine v.theirs).judge (vHd t s k))) ∧ Below W.heap.size W w') := Lib.hid (fun t s k hs hk W => by
    have h9 := vdCheck_nil (Vw.mk 5 a g q i0 r0 v.mine v.theirs) hvk (vHd t s k) hs hk ⟨#[120]⟩ W
    rw [vHd_long] at h9
    exact h9)
  have HL : Hid (∀ W, Calls Tryz.prog 56 #[(Vw.mk 5 a g q i0 r0 v.mine v.theirs).val, Pv { vHd T s2 (if T = 2 then 0 else k2) with x := false } (.slice none 0 0) ⟨#[120]⟩] W fun e w' => e = .returned (Pv (vHd T s (if T = 2 then 0 else k)) (.slice none 0 0) ⟨#[120]⟩) ∧ Below W.heap.size W w') := Lib.hid (fun W => by
    have h9 := vdLong_nil (Vw.mk 5 a g q i0 r0 v.mine v.theirs) hvk { vHd T s2 (if T = 2 then 0 else k2) with x := false } (by show s2 < _; omega) (by show (if T = 2 then 0 else k2) < _; split <;> omega) ⟨#[120]⟩ W
    have h8 := vs_long (Vw.mk 5 a g q i0 r0 v.mine v.theirs) T (by omega) D E hD1 hD2 hE1 hE2
    have h7 : stepN (Vw.mk 5 a g q i0 r0 v.mine v.theirs).gsr D = s := hs
    have h6 : stepN (Vw.mk 5 a g q i0 r0 v.mine v.theirs).gss E = k := hk
    rw [h7, h6, hs2, hk2] at h8
    rw [h8] at h9
    exact h9)
  obtain ⟨W0, hW0, hv0⟩ := VwIn.new v w
  have HV0 := Lib.hid hv0
  clear hv0
  unfold Vw.val
  go_enter Tryz.func13, Tryz.ntmps13
  go_upto_region 1 with fail
  clear hW0
  go_upto_region 4 with (go_at_call 14; (with_reducible refine (HBG.out _ HV0.out.bel).mono ?_); rintro e w0 ⟨rfl, hb0⟩)
  have HV1 : Hid (VwIn v w w0) := Lib.hid (HV0.out.below hb0)
  clear hb0 HV0 HBG
  have c0 : w0.cell? ⟨w.heap.size, 0, none⟩ = some (.int .i64 v.state) := HV1.out.vw.cell 0
  have f0 := HV1.out.vw.free 0
  go_upto_region 5 with fail
  obtain ⟨W2, hW2⟩ : ∃ X, w0.setCell ⟨w.heap.size, 0, none⟩ (.int .i64 5) = X := ⟨_, rfl⟩
  have HV2 : Hid (VwIn ⟨5, v.gss, v.gsr, v.gar, v.iss, v.isr, v.mine, v.theirs⟩ w W2) := Lib.hid (by rw [← hW2]; exact HV1.out.set 0 _ rfl)
  rw [hW2]
  clear hW2 c0 f0 HV1
  refine wp_region_T (fun W => VwIn ⟨5, v.gss, v.gsr, v.gar, v.iss, v.isr, v.mine, v.theirs⟩ w W) 15 (by kernel_rfl) ?_
  have hS := HV2.out.drew
  generalize W2.drew = Wd at hS ⊢
  refine wpAnyT_takeK (i := 0) (d := 19) (Op.fieldAddr 59 (Operand.tmp 4) 2) (.pointer (some ⟨w.heap.size, 2, none⟩)) (by kernel_rfl) (by kernel_rfl) (by kernel_rfl) (by kernel_rfl) (by kernel_rfl) (fun _ _ _ h => h) ?_ hS ?_
  · intro o ho W hW
    unfold execOp
    rw [ho]
    go_simp
  try simp only [Act.put, List.setIfInBounds_toArray, List.set_cons_zero, List.set_cons_succ]
  refine wpAnyT_takeK (i := 1) (d := 20) (Op.load 55 (Operand.tmp 19)) (.int .u64 v.gsr) (by kernel_rfl) (by kernel_rfl) (by kernel_rfl) (by kernel_rfl) (by kernel_rfl) (fun _ _ _ h => h) ?_ hS ?_
  · intro o ho W hW
    have c : W.cell? ⟨w.heap.size, 2, none⟩ = some (.int .u64 v.gsr) := (VwIn.vw hW).cell 2
    unfold execOp
    rw [ho]
    go_simp
  try simp only [Act.put, List.setIfInBounds_toArray, List.set_cons_zero, List.set_cons_succ]
  refine wpAnyT_takeK (i := 3) (d := 22) (Op.fieldAddr 59 (Operand.tmp 4) 1) (.pointer (some ⟨w.heap.size, 1, none⟩)) (by kernel_rfl) (by kernel_rfl) (by kernel_rfl) (by kernel_rfl) (by kernel_rfl) (fun _ _ _ h => h) ?_ hS ?_
  · intro o ho W hW
    unfold execOp
    rw [ho]
    go_simp
  try simp only [Act.put, List.setIfInBounds_toArray, List.set_cons_zero, List.set_cons_succ]
  refine wpAnyT_takeK (i := 4) (d := 23) (Op.load 55 (Operand.tmp 22)) (.int .u64 v.gss) (by kernel_rfl) (by kernel_rfl) (by kernel_rfl) (by kernel_rfl) (by kernel_rfl) (fun _ _ _ h => h) ?_ hS ?_
  · intro o ho W hW
    have c : W.cell? ⟨w.heap.size, 1, none⟩ = some (.int .u64 v.gss) := (VwIn.vw hW).cell 1
    unfold execOp
    rw [ho]
    go_simp
  try simp only [Act.put, List.setIfInBounds_toArray, List.set_cons_zero, List.set_cons_succ]
  refine wpAnyT_takeK (i := 6) (d := 25) (Op.fieldAddr 59 (Operand.tmp 4) 3) (.pointer (some ⟨w.heap.size, 3, none⟩)) (by kernel_rfl) (by kernel_rfl) (by kernel_rfl) (by kernel_rfl) (by kernel_rfl) (fun _ _ _ h => h) ?_ hS ?_
  · intro o ho W hW
    unfold execOp
    rw [ho]
    go_simp
  try simp only [Act.put, List.setIfInBounds_toArray, List.set_cons_zero, List.set_cons_succ]
  refine wpAnyT_takeK (i := 7) (d := 26) (Op.load 55 (Operand.tmp 25)) (.int .u64 v.gar) (by kernel_rfl) (by kernel_rfl) (by kernel_rfl) (by kernel_rfl) (by kernel_rfl) (fun _ _ _ h => h) ?_ hS ?_
  · intro o ho W hW
    have c : W.cell? ⟨w.heap.size, 3, none⟩ = some (.int .u64 v.gar) := (VwIn.vw hW).cell 3
    unfold execOp
    rw [ho]
    go_simp
  try simp only [Act.put, List.setIfInBounds_toArray, List.set_cons_zero, List.set_cons_succ]
  refine wpAnyT_takeK (i := 9) (d := 28) (Op.fieldAddr 59 (Operand.tmp 4) 4) (.pointer (some ⟨w.heap.size, 4, none⟩)) (by kernel_rfl) (by kernel_rfl) (by kernel_rfl) (by kernel_rfl) (by kernel_rfl) (fun _ _ _ h => h) ?_ hS ?_
  · intro o ho W hW
    unfold execOp
    rw [ho]
    go_simp
  try simp only [Act.put, List.setIfInBounds_toArray, List.set_cons_zero, List.set_cons_succ]
  refine wpAnyT_takeK (i := 10) (d := 29) (Op.load 55 (Operand.tmp 28)) (.int .u64 v.iss) (by kernel_rfl) (by kernel_rfl) (by kernel_rfl) (by kernel_rfl) (by kernel_rfl) (fun _ _ _ h => h) ?_ hS ?_
  · intro o ho W hW
    have c : W.cell? ⟨w.heap.size, 4, none⟩ = some (.int .u64 v.iss) := (VwIn.vw hW).cell 4
    unfold execOp
    rw [ho]
    go_simp
  try simp only [Act.put, List.setIfInBounds_toArray, List.set_cons_zero, List.set_cons_succ]
  refine wpAnyT_takeK (i := 12) (d := 31) (Op.fieldAddr 59 (Operand.tmp 4) 5) (.pointer (some ⟨w.heap.size, 5, none⟩)) (by kernel_rfl) (by kernel_rfl) (by kernel_rfl) (by kernel_rfl) (by kernel_rfl) (fun _ _ _ h => h) ?_ hS ?_
  · intro o ho W hW
    unfold execOp
    rw [ho]
    go_simp
  try simp only [Act.put, List.setIfInBounds_toArray, List.set_cons_zero, List.set_cons_succ]
  refine wpAnyT_takeK (i := 13) (d := 32) (Op.load 55 (Operand.tmp 31)) (.int .u64 v.isr) (by kernel_rfl) (by kernel_rfl) (by kernel_rfl) (by kernel_rfl) (by kernel_rfl) (fun _ _ _ h => h) ?_ hS ?_
  · intro o ho W hW
    have c : W.cell? ⟨w.heap.size, 5, none⟩ = some (.int .u64 v.isr) := (VwIn.vw hW).cell 5
    unfold execOp
    rw [ho]
    go_simp
  try simp only [Act.put, List.setIfInBounds_toArray, List.set_cons_zero, List.set_cons_succ]
  refine wpAnyT_ready (rs := [2]) (by kernel_rfl) (by simp) ?_
  refine (AllReadyT.cons (o := { dst := some 21, op := Op.call { callee := Callee.value (Operand.func 35), args := #[Operand.tmp 20], argTypes := #[55] }, type := 55, pos := "three.go:159", after := #[{ on := 1, ground := Ground.data }], guard := none }) (by kernel_rfl) (fun K hK => ?_) AllReadyT.nil)
  go_simp
  go_at_call 35
  with_reducible refine (HQ1.out _).mono ?_
  rintro e wq ⟨rfl, rfl⟩
  refine hK.out _ _ (fun _ => hS) ?_
  clear hK K
  try simp only [Act.put, List.setIfInBounds_toArray, List.set_cons_zero, List.set_cons_succ]
  refine wpAnyT_tailK (i := 15) (d := 34) (Op.fieldAddr 59 (Operand.tmp 4) 2) (.pointer (some ⟨w.heap.size, 2, none⟩)) (by kernel_rfl) (by kernel_rfl) (by kernel_rfl) (by kernel_rfl) (by decide) (fun _ _ _ h => h) ?_ ?_
  · intro o ho W
    unfold execOp
    rw [ho]
    go_simp
  try simp only [Act.put, List.setIfInBounds_toArray, List.set_cons_zero, List.set_cons_succ]
  refine wpAnyT_ready (rs := [5]) (by kernel_rfl) (by simp) ?_
  refine (AllReadyT.cons (o := { dst := some 24, op := Op.call { callee := Callee.value (Operand.func 35), args := #[Operand.tmp 23], argTypes := #[55] }, type := 55, pos := "three.go:159", after := #[{ on := 4, ground := Ground.data }, { on := 2, ground := Ground.chain }], guard := none }) (by kernel_rfl) (fun K hK => ?_) AllReadyT.nil)
  go_simp
  go_at_call 35
  with_reducible refine (HQ2.out _).mono ?_
  rintro e wq ⟨rfl, rfl⟩
  refine hK.out _ _ (fun _ => hS) ?_
  clear hK K
  try simp only [Act.put, List.setIfInBounds_toArray, List.set_cons_zero, List.set_cons_succ]
  refine wpAnyT_ready (rs := [8]) (by kernel_rfl) (by simp) ?_
  refine (AllReadyT.cons (o := { dst := some 27, op := Op.call { callee := Callee.value (Operand.func 35), args := #[Operand.tmp 26], argTypes := #[55] }, type := 55, pos := "three.go:159", after := #[{ on := 7, ground := Ground.data }, { on := 5, ground := Ground.chain }], guard := none }) (by kernel_rfl) (fun K hK => ?_) AllReadyT.nil)
  go_simp
  go_at_call 35
  with_reducible refine (HQ3.out _).mono ?_
  rintro e wq ⟨rfl, rfl⟩
  refine hK.out _ _ (fun _ => hS) ?_
  clear hK K
  try simp only [Act.put, List.setIfInBounds_toArray, List.set_cons_zero, List.set_cons_succ]
  refine wpAnyT_ready (rs := [11]) (by kernel_rfl) (by simp) ?_
  refine (AllReadyT.cons (o := { dst := some 30, op := Op.call { callee := Callee.value (Operand.func 35), args := #[Operand.tmp 29], argTypes := #[55] }, type := 55, pos := "three.go:159", after := #[{ on := 10, ground := Ground.data }, { on := 8, ground := Ground.chain }], guard := none }) (by kernel_rfl) (fun K hK => ?_) AllReadyT.nil)
  go_simp
  go_at_call 35
  with_reducible refine (HQ4.out _).mono ?_
  rintro e wq ⟨rfl, rfl⟩
  refine hK.out _ _ (fun _ => hS) ?_
  clear hK K
  try simp only [Act.put, List.setIfInBounds_toArray, List.set_cons_zero, List.set_cons_succ]
  refine wpAnyT_ready (rs := [14]) (by kernel_rfl) (by simp) ?_
  refine (AllReadyT.cons (o := { dst := some 33, op := Op.call { callee := Callee.value (Operand.func 35), args := #[Operand.tmp 32], argTypes := #[55] }, type := 55, pos := "three.go:159", after := #[{ on := 13, ground := Ground.data }, { on := 11, ground := Ground.chain }], guard := none }) (by kernel_rfl) (fun K hK => ?_) AllReadyT.nil)
  go_simp
  go_at_call 35
  with_reducible refine (HQ5.out _).mono ?_
  rintro e wq ⟨rfl, rfl⟩
  refine hK.out _ _ (fun _ => hS) ?_
  clear hK K
  try simp only [Act.put, List.setIfInBounds_toArray, List.set_cons_zero, List.set_cons_succ]
  refine wpAnyT_ready (rs := [16]) (by kernel_rfl) (by simp) ?_
  refine (AllReadyT.cons (o := { dst := none, op := Op.store 55 (Operand.tmp 34) (Operand.tmp 21), type := 0, pos := "three.go:159", after := #[{ on := 15, ground := Ground.data }, { on := 2, ground := Ground.data }, { on := 14, ground := Ground.chain }, { on := 0, ground := Ground.phase }, { on := 1, ground := Ground.phase }, { on := 2, ground := Ground.phase }, { on := 3, ground := Ground.phase }, { on := 4, ground := Ground.phase }, { on := 5, ground := Ground.textOnly Departure.lateStoresUnsure }, { on := 6, ground := Ground.phase }, { on := 7, ground := Ground.phase }, { on := 8, ground := Ground.textOnly Departure.lateStoresUnsure }, { on := 9, ground := Ground.phase }, { on := 10, ground := Ground.phase }, { on := 11, ground := Ground.textOnly Departure.lateStoresUnsure }, { on := 12, ground := Ground.phase }, { on := 13, ground := Ground.phase }, { on := 14, ground := Ground.textOnly Departure.lateStoresUnsure }], guard := none }) (by kernel_rfl) (fun K hK => ?_) AllReadyT.nil)
  have c : (Wd).cell? ⟨w.heap.size, 2, none⟩ = some (.int .u64 v.gsr) := (VwIn.vw hS).cell 2
  have f := (VwIn.vw hS).free 2
  go_simp
  refine hK.out _ _ (fun h => absurd h (by decide)) ?_
  obtain ⟨W3, hY⟩ : ∃ X, (Wd).setCell ⟨w.heap.size, 2, none⟩ (.int .u64 g) = X := ⟨_, rfl⟩
  rw [hY]
  have HV3 : Hid (VwIn ⟨5, v.gss, g, v.gar, v.iss, v.isr, v.mine, v.theirs⟩ w W3) := Lib.hid (by rw [← hY]; exact VwIn.set hS 2 _ rfl)
  clear hY c f
  clear hK K
  try simp only [Act.put, List.setIfInBounds_toArray, List.set_cons_zero, List.set_cons_succ]
  refine wpAnyT_tailK (i := 17) (d := 35) (Op.fieldAddr 59 (Operand.tmp 4) 1) (.pointer (some ⟨w.heap.size, 1, none⟩)) (by kernel_rfl) (by kernel_rfl) (by kernel_rfl) (by kernel_rfl) (by decide) (fun _ _ _ h => h) ?_ ?_
  · intro o ho W
    unfold execOp
    rw [ho]
    go_simp
  try simp only [Act.put, List.setIfInBounds_toArray, List.set_cons_zero, List.set_cons_succ]
  refine wpAnyT_ready (rs := [18]) (by kernel_rfl) (by simp) ?_
  refine (AllReadyT.cons (o := { dst := none, op := Op.store 55 (Operand.tmp 35) (Operand.tmp 24), type := 0, pos := "three.go:159", after := #[{ on := 17, ground := Ground.data }, { on := 5, ground := Ground.data }, { on := 16, ground := Ground.chain }, { on := 0, ground := Ground.phase }, { on := 1, ground := Ground.phase }, { on := 2, ground := Ground.phase }, { on := 3, ground := Ground.phase }, { on := 4, ground := Ground.phase }, { on := 5, ground := Ground.phase }, { on := 6, ground := Ground.phase }, { on := 7, ground := Ground.phase }, { on := 8, ground := Ground.textOnly Departure.lateStoresUnsure }, { on := 9, ground := Ground.phase }, { on := 10, ground := Ground.phase }, { on := 11, ground := Ground.textOnly Departure.lateStoresUnsure }, { on := 12, ground := Ground.phase }, { on := 13, ground := Ground.phase }, { on := 14, ground := Ground.textOnly Departure.lateStoresUnsure }, { on := 15, ground := Ground.phase }, { on := 16, ground := Ground.phase }], guard := none }) (by kernel_rfl) (fun K hK => ?_) AllReadyT.nil)
  have c : (W3).cell? ⟨w.heap.size, 1, none⟩ = some (.int .u64 v.gss) := (VwIn.vw HV3.out).cell 1
  have f := (VwIn.vw HV3.out).free 1
  go_simp
  refine hK.out _ _ (fun h => absurd h (by decide)) ?_
  obtain ⟨W4, hY⟩ : ∃ X, (W3).setCell ⟨w.heap.size, 1, none⟩ (.int .u64 a) = X := ⟨_, rfl⟩
  rw [hY]
  have HV4 : Hid (VwIn ⟨5, a, g, v.gar, v.iss, v.isr, v.mine, v.theirs⟩ w W4) := Lib.hid (by rw [← hY]; exact VwIn.set HV3.out 1 _ rfl)
  clear hY c f
  clear hK K
  try simp only [Act.put, List.setIfInBounds_toArray, List.set_cons_zero, List.set_cons_succ]
  refine wpAnyT_tailK (i := 19) (d := 36) (Op.fieldAddr 59 (Operand.tmp 4) 3) (.pointer (some ⟨w.heap.size, 3, none⟩)) (by kernel_rfl) (by kernel_rfl) (by kernel_rfl) (by kernel_rfl) (by decide) (fun _ _ _ h => h) ?_ ?_
  · intro o ho W
    unfold execOp
    rw [ho]
    go_simp
  try simp only [Act.put, List.setIfInBounds_toArray, List.set_cons_zero, List.set_cons_succ]
  refine wpAnyT_ready (rs := [20]) (by kernel_rfl) (by simp) ?_
  refine (AllReadyT.cons (o := { dst := none, op := Op.store 55 (Operand.tmp 36) (Operand.tmp 27), type := 0, pos := "three.go:159", after := #[{ on := 19, ground := Ground.data }, { on := 8, ground := Ground.data }, { on := 18, ground := Ground.chain }, { on := 0, ground := Ground.phase }, { on := 1, ground := Ground.phase }, { on := 2, ground := Ground.phase }, { on := 3, ground := Ground.phase }, { on := 4, ground := Ground.phase }, { on := 5, ground := Ground.phase }, { on := 6, ground := Ground.phase }, { on := 7, ground := Ground.phase }, { on := 8, ground := Ground.phase }, { on := 9, ground := Ground.phase }, { on := 10, ground := Ground.phase }, { on := 11, ground := Ground.textOnly Departure.lateStoresUnsure }, { on := 12, ground := Ground.phase }, { on := 13, ground := Ground.phase }, { on := 14, ground := Ground.textOnly Departure.lateStoresUnsure }, { on := 15, ground := Ground.phase }, { on := 16, ground := Ground.phase }, { on := 17, ground := Ground.phase }, { on := 18, ground := Ground.phase }], guard := none }) (by kernel_rfl) (fun K hK => ?_) AllReadyT.nil)
  have c : (W4).cell? ⟨w.heap.size, 3, none⟩ = some (.int .u64 v.gar) := (VwIn.vw HV4.out).cell 3
  have f := (VwIn.vw HV4.out).free 3
  go_simp
  refine hK.out _ _ (fun h => absurd h (by decide)) ?_
  obtain ⟨W5, hY⟩ : ∃ X, (W4).setCell ⟨w.heap.size, 3, none⟩ (.int .u64 q) = X := ⟨_, rfl⟩
  rw [hY]
  have HV5 : Hid (VwIn ⟨5, a, g, q, v.iss, v.isr, v.mine, v.theirs⟩ w W5) := Lib.hid (by rw [← hY]; exact VwIn.set HV4.out 3 _ rfl)
  clear hY c f
  clear hK K
  try simp only [Act.put, List.setIfInBounds_toArray, List.set_cons_zero, List.set_cons_succ]
  refine wpAnyT_tailK (i := 21) (d := 37) (Op.fieldAddr 59 (Operand.tmp 4) 4) (.pointer (some ⟨w.heap.size, 4, none⟩)) (by kernel_rfl) (by kernel_rfl) (by kernel_rfl) (by kernel_rfl) (by decide) (fun _ _ _ h => h) ?_ ?_
  · intro o ho W
    unfold execOp
    rw [ho]
    go_simp
  try simp only [Act.put, List.setIfInBounds_toArray, List.set_cons_zero, List.set_cons_succ]
  refine wpAnyT_ready (rs := [22]) (by kernel_rfl) (by simp) ?_
  refine (AllReadyT.cons (o := { dst := none, op := Op.store 55 (Operand.tmp 37) (Operand.tmp 30), type := 0, pos := "three.go:159", after := #[{ on := 21, ground := Ground.data }, { on := 11, ground := Ground.data }, { on := 20, ground := Ground.chain }, { on := 0, ground := Ground.phase }, { on := 1, ground := Ground.phase }, { on := 2, ground := Ground.phase }, { on := 3, ground := Ground.phase }, { on := 4, ground := Ground.phase }, { on := 5, ground := Ground.phase }, { on := 6, ground := Ground.phase }, { on := 7, ground := Ground.phase }, { on := 8, ground := Ground.phase }, { on := 9, ground := Ground.phase }, { on := 10, ground := Ground.phase }, { on := 11, ground := Ground.phase }, { on := 12, ground := Ground.phase }, { on := 13, ground := Ground.phase }, { on := 14, ground := Ground.textOnly Departure.lateStoresUnsure }, { on := 15, ground := Ground.phase }, { on := 16, ground := Ground.phase }, { on := 17, ground := Ground.phase }, { on := 18, ground := Ground.phase }, { on := 19, ground := Ground.phase }, { on := 20, ground := Ground.phase }], guard := none }) (by kernel_rfl) (fun K hK => ?_) AllReadyT.nil)
  have c : (W5).cell? ⟨w.heap.size, 4, none⟩ = some (.int .u64 v.iss) := (VwIn.vw HV5.out).cell 4
  have f := (VwIn.vw HV5.out).free 4
  go_simp
  refine hK.out _ _ (fun h => absurd h (by decide)) ?_
  obtain ⟨W6, hY⟩ : ∃ X, (W5).setCell ⟨w.heap.size, 4, none⟩ (.int .u64 i0) = X := ⟨_, rfl⟩
  rw [hY]
  have HV6 : Hid (VwIn ⟨5, a, g, q, i0, v.isr, v.mine, v.theirs⟩ w W6) := Lib.hid (by rw [← hY]; exact VwIn.set HV5.out 4 _ rfl)
  clear hY c f
  clear hK K
  try simp only [Act.put, List.setIfInBounds_toArray, List.set_cons_zero, List.set_cons_succ]
  refine wpAnyT_tailK (i := 23) (d := 38) (Op.fieldAddr 59 (Operand.tmp 4) 5) (.pointer (some ⟨w.heap.size, 5, none⟩)) (by kernel_rfl) (by kernel_rfl) (by kernel_rfl) (by kernel_rfl) (by decide) (fun _ _ _ h => h) ?_ ?_
  · intro o ho W
    unfold execOp
    rw [ho]
    go_simp
  try simp only [Act.put, List.setIfInBounds_toArray, List.set_cons_zero, List.set_cons_succ]
  refine wpAnyT_ready (rs := [24]) (by kernel_rfl) (by simp) ?_
  refine (AllReadyT.cons (o := { dst := none, op := Op.store 55 (Operand.tmp 38) (Operand.tmp 33), type := 0, pos := "three.go:159", after := #[{ on := 23, ground := Ground.data }, { on := 14, ground := Ground.data }, { on := 22, ground := Ground.chain }, { on := 0, ground := Ground.phase }, { on := 1, ground := Ground.phase }, { on := 2, ground := Ground.phase }, { on := 3, ground := Ground.phase }, { on := 4, ground := Ground.phase }, { on := 5, ground := Ground.phase }, { on := 6, ground := Ground.phase }, { on := 7, ground := Ground.phase }, { on := 8, ground := Ground.phase }, { on := 9, ground := Ground.phase }, { on := 10, ground := Ground.phase }, { on := 11, ground := Ground.phase }, { on := 12, ground := Ground.phase }, { on := 13, ground := Ground.phase }, { on := 14, ground := Ground.phase }, { on := 15, ground := Ground.phase }, { on := 16, ground := Ground.phase }, { on := 17, ground := Ground.phase }, { on := 18, ground := Ground.phase }, { on := 19, ground := Ground.phase }, { on := 20, ground := Ground.phase }, { on := 21, ground := Ground.phase }, { on := 22, ground := Ground.phase }], guard := none }) (by kernel_rfl) (fun K hK => ?_) AllReadyT.nil)
  have c : (W6).cell? ⟨w.heap.size, 5, none⟩ = some (.int .u64 v.isr) := (VwIn.vw HV6.out).cell 5
  have f := (VwIn.vw HV6.out).free 5
  go_simp
  refine hK.out _ _ (fun h => absurd h (by decide)) ?_
  obtain ⟨W7, hY⟩ : ∃ X, (W6).setCell ⟨w.heap.size, 5, none⟩ (.int .u64 r0) = X := ⟨_, rfl⟩
  rw [hY]
  have HV7 : Hid (VwIn ⟨5, a, g, q, i0, r0, v.mine, v.theirs⟩ w W7) := Lib.hid (by rw [← hY]; exact VwIn.set HV6.out 5 _ rfl)
  clear hY c f
  clear hK K
  try simp only [Act.put, List.setIfInBounds_toArray, List.set_cons_zero, List.set_cons_succ]
  refine wpAnyT_done (by kernel_rfl) ?_ _
  clear hS HV2 HV3 HV4 HV5 HV6 HQ1 HQ2 HQ3 HQ4 HQ5
  have hc : (W7.alloc (.cells #[.int .i64 2, .int .i64 3, .int .i64 4] 3)).cell? ⟨W7.heap.size, S0, none⟩ = some (.int .i64 T) := by
    have h9 := (BlkIs.new #[.int .i64 2, .int .i64 3, .int .i64 4] 3 W7).cell S0
    rw [h9, ← hT]
    have : S0 = 0 ∨ S0 = 1 ∨ S0 = 2 := by omega
    rcases this with rfl | rfl | rfl <;> rfl
  go_upto_region 8 with fail
  obtain ⟨W8, hW8⟩ : ∃ X, W7.alloc (.cells #[.int .i64 2, .int .i64 3, .int .i64 4] 3) = X := ⟨_, rfl⟩
  rw [hW8]
  have HV8 : Hid (VwIn (Vw.mk 5 a g q i0 r0 v.mine v.theirs) w W8) := Lib.hid (by rw [← hW8]; exact HV7.out.alloc _)
  clear hW8 hc HV7
  refine wp_region_T (fun W => VwIn (Vw.mk 5 a g q i0 r0 v.mine v.theirs) w W) 10 (by kernel_rfl) ?_
  have hS := HV8.out.drew
  refine wpAnyT_takeK (i := 0) (d := 50) (Op.fieldAddr 59 (Operand.tmp 4) 2) (.pointer (some ⟨w.heap.size, 2, none⟩)) (by kernel_rfl) (by kernel_rfl) (by kernel_rfl) (by kernel_rfl) (by kernel_rfl) (fun _ _ _ h => h) ?_ hS ?_
  · intro o ho W hW
    unfold execOp
    rw [ho]
    go_simp
  try simp only [Act.put, List.setIfInBounds_toArray, List.set_cons_zero, List.set_cons_succ]
  refine wpAnyT_takeK (i := 1) (d := 51) (Op.load 55 (Operand.tmp 50)) (.int .u64 g) (by kernel_rfl) (by kernel_rfl) (by kernel_rfl) (by kernel_rfl) (by kernel_rfl) (fun _ _ _ h => h) ?_ hS ?_
  · intro o ho W hW
    have c : W.cell? ⟨w.heap.size, 2, none⟩ = some (.int .u64 g) := (VwIn.vw hW).cell 2
    unfold execOp
    rw [ho]
    go_simp
  try simp only [Act.put, List.setIfInBounds_toArray, List.set_cons_zero, List.set_cons_succ]
  refine wpAnyT_takeK (i := 2) (d := 52) (Op.move (Operand.tmp 2)) (.int .i64 D) (by kernel_rfl) (by kernel_rfl) (by kernel_rfl) (by kernel_rfl) (by kernel_rfl) (fun _ _ _ h => h) ?_ hS ?_
  · intro o ho W hW
    unfold execOp
    rw [ho]
    go_simp
  try simp only [Act.put, List.setIfInBounds_toArray, List.set_cons_zero, List.set_cons_succ]
  refine wpAnyT_takeK (i := 4) (d := 54) (Op.fieldAddr 59 (Operand.tmp 4) 1) (.pointer (some ⟨w.heap.size, 1, none⟩)) (by kernel_rfl) (by kernel_rfl) (by kernel_rfl) (by kernel_rfl) (by kernel_rfl) (fun _ _ _ h => h) ?_ hS ?_
  · intro o ho W hW
    unfold execOp
    rw [ho]
    go_simp
  try simp only [Act.put, List.setIfInBounds_toArray, List.set_cons_zero, List.set_cons_succ]
  refine wpAnyT_takeK (i := 5) (d := 55) (Op.load 55 (Operand.tmp 54)) (.int .u64 a) (by kernel_rfl) (by kernel_rfl) (by kernel_rfl) (by kernel_rfl) (by kernel_rfl) (fun _ _ _ h => h) ?_ hS ?_
  · intro o ho W hW
    have c : W.cell? ⟨w.heap.size, 1, none⟩ = some (.int .u64 a) := (VwIn.vw hW).cell 1
    unfold execOp
    rw [ho]
    go_simp
  try simp only [Act.put, List.setIfInBounds_toArray, List.set_cons_zero, List.set_cons_succ]
  refine wpAnyT_takeK (i := 6) (d := 56) (Op.move (Operand.tmp 3)) (.int .i64 E) (by kernel_rfl) (by kernel_rfl) (by kernel_rfl) (by kernel_rfl) (by kernel_rfl) (fun _ _ _ h => h) ?_ hS ?_
  · intro o ho W hW
    unfold execOp
    rw [ho]
    go_simp
  try simp only [Act.put, List.setIfInBounds_toArray, List.set_cons_zero, List.set_cons_succ]
  refine wpAnyT_ready (rs := [3]) (by kernel_rfl) (by simp) ?_
  refine (AllReadyT.cons (o := { dst := some 53, op := Op.call { callee := Callee.value (Operand.func 36), args := #[Operand.tmp 51, Operand.tmp 52], argTypes := #[55, 2] }, type := 55, pos := "three.go:162", after := #[{ on := 1, ground := Ground.data }, { on := 2, ground := Ground.data }], guard := none }) (by kernel_rfl) (fun K hK => ?_) AllReadyT.nil)
  go_simp
  go_at_call 36
  with_reducible refine (HS1.out _).mono ?_
  rintro e wq ⟨rfl, rfl⟩
  refine hK.out _ _ (fun _ => hS) ?_
  clear hK K
  try simp only [Act.put, List.setIfInBounds_toArray, List.set_cons_zero, List.set_cons_succ]
  refine wpAnyT_ready (rs := [7]) (by kernel_rfl) (by simp) ?_
  refine (AllReadyT.cons (o := { dst := some 57, op := Op.call { callee := Callee.value (Operand.func 36), args := #[Operand.tmp 55, Operand.tmp 56], argTypes := #[55, 2] }, type := 55, pos := "three.go:162", after := #[{ on := 5, ground := Ground.data }, { on := 6, ground := Ground.data }, { on := 3, ground := Ground.chain }], guard := none }) (by kernel_rfl) (fun K hK => ?_) AllReadyT.nil)
  go_simp
  go_at_call 36
  with_reducible refine (HS2.out _).mono ?_
  rintro e wq ⟨rfl, rfl⟩
  refine hK.out _ _ (fun _ => hS) ?_
  clear hK K
  try simp only [Act.put, List.setIfInBounds_toArray, List.set_cons_zero, List.set_cons_succ]
  refine wpAnyT_takeK (i := 8) (d := 10) (Op.assign (Operand.tmp 53)) (.int .u64 s) (by kernel_rfl) (by kernel_rfl) (by kernel_rfl) (by kernel_rfl) (by kernel_rfl) (fun _ _ _ h => h) ?_ hS ?_
  · intro o ho W hW
    unfold execOp
    rw [ho]
    go_simp
  try simp only [Act.put, List.setIfInBounds_toArray, List.set_cons_zero, List.set_cons_succ]
  refine wpAnyT_takeK (i := 9) (d := 11) (Op.assign (Operand.tmp 57)) (.int .u64 k) (by kernel_rfl) (by kernel_rfl) (by kernel_rfl) (by kernel_rfl) (by kernel_rfl) (fun _ _ _ h => h) ?_ hS ?_
  · intro o ho W hW
    unfold execOp
    rw [ho]
    go_simp
  try simp only [Act.put, List.setIfInBounds_toArray, List.set_cons_zero, List.set_cons_succ]
  refine wpAnyT_done (by kernel_rfl) ?_ _
  clear hS
  obtain ⟨W9, hW9⟩ : ∃ X, W8.drew = X := ⟨_, rfl⟩
  have HV9 : Hid (VwIn (Vw.mk 5 a g q i0 r0 v.mine v.theirs) w W9) := Lib.hid (by rw [← hW9]; exact HV8.out.drew)
  rw [hW9]
  clear hW9 HV8
  obtain ⟨H1, hH1⟩ : ∃ H, W9.heap.size = H := ⟨_, rfl⟩
  have HH1 : Hid (w.heap.size < H1) := Lib.hid (by rw [← hH1]; exact HV9.out.lt)
  go_upto_region 10 with fail
  obtain ⟨W10, hW10⟩ : ∃ X, W9.alloc (.cells #[.int .i64 0, .int .i64 0, .int .i64 0, .int .i64 0, .int .i64 0, .int .i64 0, .int .i64 T, .bool true, .int .u64 s, .int .u64 k, .int .u32 0, .int .i64 0, .int .u8 0, .int .u8 0, .int .u8 0, .slice none 0 0, .string ⟨#[120]⟩] 68) = X := ⟨_, rfl⟩
  rw [hW10]
  (try rw [hH1])
  have HPA : Hid (PkOf (vHd T s k) ⟨#[120]⟩ H1 W10) := Lib.hid (by rw [← hW10, ← hH1]; exact PkOf.made _ _ _)
  have HVA : Hid (VwIn (Vw.mk 5 a g q i0 r0 v.mine v.theirs) w W10) := Lib.hid (by rw [← hW10]; exact HV9.out.alloc _)
  clear hW10 hH1 HV9
  obtain ⟨H2, hH2⟩ : ∃ H, W10.heap.size = H := ⟨_, rfl⟩
  have HH2 : Hid (H1 < H2) := Lib.hid (by rw [← hH2]; exact BlkIs.lt HPA.out)
  go_upto_region 11 with fail
  obtain ⟨W11, hW11⟩ : ∃ X, W10.alloc (.cells #[.int .i64 0, .int .i64 0, .int .i64 0, .int .i64 0, .int .i64 0, .int .i64 0, .int .i64 T, .bool false, .int .u64 s2, .int .u64 k2, .int .u32 0, .int .i64 0, .int .u8 0, .int .u8 0, .int .u8 0, .slice none 0 0, .string ⟨#[120]⟩] 68) = X := ⟨_, rfl⟩
  rw [hW11]
  (try rw [hH2])
  have HPB : Hid (PkOf { vHd T s2 k2 with x := false } ⟨#[120]⟩ H2 W11) := Lib.hid (by rw [← hW11, ← hH2]; exact PkOf.made _ _ _)
  have HVB : Hid (VwIn (Vw.mk 5 a g q i0 r0 v.mine v.theirs) w W11) := Lib.hid (by rw [← hW11]; exact HVA.out.alloc _)
  have HPC : Hid (PkOf (vHd T s k) ⟨#[120]⟩ H1 W11) := Lib.hid (by rw [← hW11]; exact BlkIs.alloc HPA.out _)
  clear hW11 hH2 HVA HPA
  by_cases hTT : T = 2
  · have dT : decide (T = 2) = true := decide_eq_true hTT
    have bT : (T == 2) = true := by rw [beq_iff_eq]; exact hTT
    rw [if_pos hTT, if_pos hTT] at HL
    clear hTT
    have c1 : W11.cell? ⟨H1, 9, none⟩ = some (.int .u64 k) := BlkIs.cell HPC.out 9
    have c2 : W11.cell? ⟨H2, 9, none⟩ = some (.int .u64 k2) := BlkIs.cell HPB.out 9
    have f1 := BlkIs.free HPC.out 9
    have f2 := BlkIs.free HPB.out 9
    have hne : ¬ H1 = H2 := by have := HH2.out; omega
    have hne2 : ¬ H2 = H1 := by have := HH2.out; omega
    go_upto_region 13 with fail
    obtain ⟨W12, hW12⟩ : ∃ X, (W11.setCell ⟨H1, 9, none⟩ (.int .u64 0)).setCell ⟨H2, 9, none⟩ (.int .u64 0) = X := ⟨_, rfl⟩
    have HPD : Hid (PkOf (vHd T s 0) ⟨#[120]⟩ H1 W12) := Lib.hid (by rw [← hW12]; exact PkOf.far (PkOf.set (h2 := vHd T s 0) HPC.out 9 (.int .u64 0) rfl) (p := ⟨H2, 9, none⟩) hne _)
    have HPE : Hid (PkOf { vHd T s2 0 with x := false } ⟨#[120]⟩ H2 W12) := Lib.hid (by rw [← hW12]; exact PkOf.set (h2 := { vHd T s2 0 with x := false }) (PkOf.far HPB.out (p := ⟨H1, 9, none⟩) hne2 _) 9 (.int .u64 0) rfl)
    have HVD : Hid (VwIn (Vw.mk 5 a g q i0 r0 v.mine v.theirs) w W12) := Lib.hid (by rw [← hW12]; exact (HVB.out.far (p := ⟨H1, 9, none⟩) HH1.out _).far (p := ⟨H2, 9, none⟩) (by have := HH1.out; have := HH2.out; show _ < H2; omega) _)
    rw [hW12]
    clear hW12 c1 c2 f1 f2 hne hne2 HPB HPC HVB
    obtain ⟨J, hJ⟩ : ∃ J, (Vw.mk 5 a g q i0 r0 v.mine v.theirs).judge (vHd T s 0) = J := ⟨_, rfl⟩
    have HCJ := Lib.hid (HC.out T s 0 (by omega) (by omega))
    rw [hJ] at HCJ
    clear hJ HC
    have hgz := fun op x y w => guardHd2 op x y (vHd T s 0) (vHd T s 0) w
    have heq : ∀ W, (binOp .eql 66 (vHd T s 0).val (vHd T s 0).val).run Tryz.prog W = .ok (.bool true) W := fun W => by have := eqlHd (vHd T s 0) (vHd T s 0) W; rwa [(Hd.eqB_iff _ _).2 rfl] at this
    go_upto_region 14 with (first
      | (refine load_vw rfl _ rfl w.heap.size rfl (Vw.mk 5 a g q i0 r0 v.mine v.theirs) HVD.out.vw ?_)
      | (refine load_pv rfl _ rfl H2 rfl { vHd T s2 0 with x := false } _ ⟨#[120]⟩ HPE.out ?_)
      | (go_at_call 56; (with_reducible refine (HL.out _).mono ?_); rintro e W13 ⟨rfl, hb13⟩)
      | (refine store_pk rfl _ _ rfl _ Hd.zero (vHd T s 0) _ _ ⟨#[120]⟩ none 0 0 rfl rfl (pk_fresh_at _ _ rfl) ?_; intro W14 hp14 hg14))
    obtain ⟨H3, hH3⟩ : ∃ H, W13.heap.size = H := ⟨_, rfl⟩
    have HV13 := Lib.hid (HVD.out.below hb13)
    have HP13 := Lib.hid (HPD.out.below hb13)
    have HH3 : Hid (H1 < H3) := Lib.hid (by rw [← hH3]; exact BlkIs.lt HP13.out)
    (try rw [hH3])
    rw [hH3] at hp14 hg14
    have HPF : Hid (PkOf (vHd T s 0) ⟨#[120]⟩ H1 W14) := Lib.hid (PkOf.grown (BlkIs.alloc HP13.out _) hg14 (by have := HH3.out; omega))
    have HPG : Hid (PkOf (vHd T s 0) ⟨#[120]⟩ H3 W14) := Lib.hid hp14
    have HVE : Hid (VwIn (Vw.mk 5 a g q i0 r0 v.mine v.theirs) w W14) := Lib.hid ((HV13.out.alloc _).grown hg14 (by have := HH1.out; have := HH3.out; omega))
    clear hp14 hg14 hH3 hb13 HV13 HP13 HVD HPD HPE HL
    refine wp_region_T (fun W => VwIn (Vw.mk 5 a g q i0 r0 v.mine v.theirs) w W ∧ PkOf (vHd T s 0) ⟨#[120]⟩ H1 W ∧ PkOf (vHd T s 0) ⟨#[120]⟩ H3 W) 20 (by kernel_rfl) ?_
    have hS := (⟨HVE.out.drew, HPF.out.below (bel_drewN _ 1), HPG.out.below (bel_drewN _ 1)⟩ : (fun W => VwIn (Vw.mk 5 a g q i0 r0 v.mine v.theirs) w W ∧ PkOf (vHd T s 0) ⟨#[120]⟩ H1 W ∧ PkOf (vHd T s 0) ⟨#[120]⟩ H3 W) W14.drew)
    refine wpAnyT_takeK (i := 0) (d := 79) (Op.fieldAddr 68 (Operand.tmp 14) 0) (.pointer (some ⟨H3, 0, none⟩)) (by kernel_rfl) (by kernel_rfl) (by kernel_rfl) (by kernel_rfl) (by kernel_rfl) (fun _ _ _ h => h) ?_ hS ?_
    · intro o ho W hW
      unfold execOp
      rw [ho]
      go_simp
    try simp only [Act.put, List.setIfInBounds_toArray, List.set_cons_zero, List.set_cons_succ]
    refine wpAnyT_takeK (i := 1) (d := 80) (Op.load 66 (Operand.tmp 79)) ((vHd T s 0).val) (by kernel_rfl) (by kernel_rfl) (by kernel_rfl) (by kernel_rfl) (by kernel_rfl) (fun _ _ _ h => h) ?_ hS ?_
    · intro o ho W hW
      exact exec_load_hdp _ ho H3 rfl _ _ _ (show PkBlk (vHd T s 0) (.slice none 0 0) ⟨#[120]⟩ H3 W from hW.2.2)
    try simp only [Act.put, List.setIfInBounds_toArray, List.set_cons_zero, List.set_cons_succ]
    refine wpAnyT_takeK (i := 2) (d := 81) (Op.fieldAddr 68 (Operand.tmp 12) 0) (.pointer (some ⟨H1, 0, none⟩)) (by kernel_rfl) (by kernel_rfl) (by kernel_rfl) (by kernel_rfl) (by kernel_rfl) (fun _ _ _ h => h) ?_ hS ?_
    · intro o ho W hW
      unfold execOp
      rw [ho]
      go_simp
    try simp only [Act.put, List.setIfInBounds_toArray, List.set_cons_zero, List.set_cons_succ]
    refine wpAnyT_takeK (i := 3) (d := 82) (Op.load 66 (Operand.tmp 81)) ((vHd T s 0).val) (by kernel_rfl) (by kernel_rfl) (by kernel_rfl) (by kernel_rfl) (by kernel_rfl) (fun _ _ _ h => h) ?_ hS ?_
    · intro o ho W hW
      exact exec_load_hdp _ ho H1 rfl _ _ _ (show PkBlk (vHd T s 0) (.slice none 0 0) ⟨#[120]⟩ H1 W from hW.2.1)
    try simp only [Act.put, List.setIfInBounds_toArray, List.set_cons_zero, List.set_cons_succ]
    refine wpAnyT_takeK (i := 4) (d := 83) (Op.binOp BinOp.eql 66 (Operand.tmp 80) (Operand.tmp 82) 66) (.bool true) (by kernel_rfl) (by kernel_rfl) (by kernel_rfl) (by kernel_rfl) (by kernel_rfl) (fun _ _ _ h => h) ?_ hS ?_
    · intro o ho W hW
      unfold execOp
      rw [ho]
      go_simp
      (try rfl)
    try simp only [Act.put, List.setIfInBounds_toArray, List.set_cons_zero, List.set_cons_succ]
    refine wpAnyT_takeK (i := 5) (d := 84) (Op.move (Operand.tmp 83)) (.bool true) (by kernel_rfl) (by kernel_rfl) (by kernel_rfl) (by kernel_rfl) (by kernel_rfl) (fun _ _ _ h => h) ?_ hS ?_
    · intro o ho W hW
      unfold execOp
      rw [ho]
      go_simp
    try simp only [Act.put, List.setIfInBounds_toArray, List.set_cons_zero, List.set_cons_succ]
    refine wpAnyT_takeK (i := 6) (d := 85) (Op.fieldAddr 68 (Operand.tmp 14) 2) (.pointer (some ⟨H3, 16, none⟩)) (by kernel_rfl) (by kernel_rfl) (by kernel_rfl) (by kernel_rfl) (by kernel_rfl) (fun _ _ _ h => h) ?_ hS ?_
    · intro o ho W hW
      unfold execOp
      rw [ho]
      go_simp
    try simp only [Act.put, List.setIfInBounds_toArray, List.set_cons_zero, List.set_cons_succ]
    refine wpAnyT_takeK (i := 7) (d := 86) (Op.load 9 (Operand.tmp 85)) (.string ⟨#[120]⟩) (by kernel_rfl) (by kernel_rfl) (by kernel_rfl) (by kernel_rfl) (by kernel_rfl) (fun _ _ _ h => h) ?_ hS ?_
    · intro o ho W hW
      have c : W.cell? ⟨H3, 16, none⟩ = some (.string ⟨#[120]⟩) := BlkIs.cell hW.2.2 16
      unfold execOp
      rw [ho]
      go_simp
    try simp only [Act.put, List.setIfInBounds_toArray, List.set_cons_zero, List.set_cons_succ]
    refine wpAnyT_takeK (i := 8) (d := 87) (Op.binOp BinOp.eql 9 (Operand.tmp 86) (Operand.const (Value.string { data := #[120] })) 9) (.bool true) (by kernel_rfl) (by kernel_rfl) (by kernel_rfl) (by kernel_rfl) (by kernel_rfl) (fun _ _ _ h => h) ?_ hS ?_
    · intro o ho W hW
      unfold execOp
      rw [ho]
      go_simp
      (try rfl)
    try simp only [Act.put, List.setIfInBounds_toArray, List.set_cons_zero, List.set_cons_succ]
    refine wpAnyT_takeK (i := 9) (d := 88) (Op.pick (Operand.tmp 84) (Operand.tmp 87) (Operand.const (Value.bool false))) (.bool true) (by kernel_rfl) (by kernel_rfl) (by kernel_rfl) (by kernel_rfl) (by kernel_rfl) (fun _ _ _ h => h) ?_ hS ?_
    · intro o ho W hW
      unfold execOp
      rw [ho]
      go_simp
      (try rfl)
    try simp only [Act.put, List.setIfInBounds_toArray, List.set_cons_zero, List.set_cons_succ]
    refine wpAnyT_takeK (i := 10) (d := 89) (Op.move (Operand.tmp 88)) (.bool true) (by kernel_rfl) (by kernel_rfl) (by kernel_rfl) (by kernel_rfl) (by kernel_rfl) (fun _ _ _ h => h) ?_ hS ?_
    · intro o ho W hW
      unfold execOp
      rw [ho]
      go_simp
    try simp only [Act.put, List.setIfInBounds_toArray, List.set_cons_zero, List.set_cons_succ]
    refine wpAnyT_takeK (i := 11) (d := 90) (Op.load 59 (Operand.tmp 4)) ((Vw.mk 5 a g q i0 r0 v.mine v.theirs).val) (by kernel_rfl) (by kernel_rfl) (by kernel_rfl) (by kernel_rfl) (by kernel_rfl) (fun _ _ _ h => h) ?_ hS ?_
    · intro o ho W hW
      exact exec_load_row 59 _ ho w.heap.size rfl 59 (vwCells (Vw.mk 5 a g q i0 r0 v.mine v.theirs)) (0, 0) _ (VwIn.vw hW.1) Tryz.underlying59 rfl infoVw
    try simp only [Act.put, List.setIfInBounds_toArray, List.set_cons_zero, List.set_cons_succ]
    refine wpAnyT_takeK (i := 12) (d := 91) (Op.load 68 (Operand.tmp 14)) (Pv (vHd T s 0) (.slice none 0 0) ⟨#[120]⟩) (by kernel_rfl) (by kernel_rfl) (by kernel_rfl) (by kernel_rfl) (by kernel_rfl) (fun _ _ _ h => h) ?_ hS ?_
    · intro o ho W hW
      exact exec_load_row 68 _ ho H3 rfl 68 (pkCells (vHd T s 0) (.slice none 0 0) ⟨#[120]⟩) (0, 0) _ (hW.2.2) Tryz.underlying68 rfl infoPk
    try simp only [Act.put, List.setIfInBounds_toArray, List.set_cons_zero, List.set_cons_succ]
    refine wpAnyT_takeK (i := 14) (d := 93) (Op.load 59 (Operand.tmp 4)) ((Vw.mk 5 a g q i0 r0 v.mine v.theirs).val) (by kernel_rfl) (by kernel_rfl) (by kernel_rfl) (by kernel_rfl) (by kernel_rfl) (fun _ _ _ h => h) ?_ hS ?_
    · intro o ho W hW
      exact exec_load_row 59 _ ho w.heap.size rfl 59 (vwCells (Vw.mk 5 a g q i0 r0 v.mine v.theirs)) (0, 0) _ (VwIn.vw hW.1) Tryz.underlying59 rfl infoVw
    try simp only [Act.put, List.setIfInBounds_toArray, List.set_cons_zero, List.set_cons_succ]
    refine wpAnyT_takeK (i := 15) (d := 94) (Op.load 68 (Operand.tmp 12)) (Pv (vHd T s 0) (.slice none 0 0) ⟨#[120]⟩) (by kernel_rfl) (by kernel_rfl) (by kernel_rfl) (by kernel_rfl) (by kernel_rfl) (fun _ _ _ h => h) ?_ hS ?_
    · intro o ho W hW
      exact exec_load_row 68 _ ho H1 rfl 68 (pkCells (vHd T s 0) (.slice none 0 0) ⟨#[120]⟩) (0, 0) _ (hW.2.1) Tryz.underlying68 rfl infoPk
    try simp only [Act.put, List.setIfInBounds_toArray, List.set_cons_zero, List.set_cons_succ]
    refine wpAnyT_ready (rs := [13]) (by kernel_rfl) (by simp) ?_
    refine (AllReadyT.cons (o := { dst := some 92, op := Op.call { callee := Callee.value (Operand.func 37), args := #[Operand.tmp 90, Operand.tmp 91], argTypes := #[59, 68] }, type := 3, pos := "three.go:169", after := #[{ on := 11, ground := Ground.data }, { on := 12, ground := Ground.data }, { on := 10, ground := Ground.chain }, { on := 10, ground := Ground.guard }], guard := some (10, true) }) (by kernel_rfl) (fun K hK => ?_) AllReadyT.nil)
    go_simp
    go_at_call 37
    with_reducible refine (HCJ.out _).mono ?_
    rintro e wc1 ⟨rfl, hbc1⟩
    refine hK.out _ _ (fun _ => ⟨hS.1.below hbc1, hS.2.1.below hbc1, hS.2.2.below hbc1⟩) ?_
    replace hS := (⟨hS.1.below hbc1, hS.2.1.below hbc1, hS.2.2.below hbc1⟩ : (fun W => VwIn (Vw.mk 5 a g q i0 r0 v.mine v.theirs) w W ∧ PkOf (vHd T s 0) ⟨#[120]⟩ H1 W ∧ PkOf (vHd T s 0) ⟨#[120]⟩ H3 W) wc1)
    clear hK K
    try simp only [Act.put, List.setIfInBounds_toArray, List.set_cons_zero, List.set_cons_succ]
    refine wpAnyT_ready (rs := [16]) (by kernel_rfl) (by simp) ?_
    refine (AllReadyT.cons (o := { dst := some 95, op := Op.call { callee := Callee.value (Operand.func 37), args := #[Operand.tmp 93, Operand.tmp 94], argTypes := #[59, 68] }, type := 3, pos := "three.go:169", after := #[{ on := 14, ground := Ground.data }, { on := 15, ground := Ground.data }, { on := 13, ground := Ground.chain }, { on := 10, ground := Ground.guard }], guard := some (10, true) }) (by kernel_rfl) (fun K hK => ?_) AllReadyT.nil)
    go_simp
    go_at_call 37
    with_reducible refine (HCJ.out _).mono ?_
    rintro e wc2 ⟨rfl, hbc2⟩
    refine hK.out _ _ (fun _ => ⟨hS.1.below hbc2, hS.2.1.below hbc2, hS.2.2.below hbc2⟩) ?_
    replace hS := (⟨hS.1.below hbc2, hS.2.1.below hbc2, hS.2.2.below hbc2⟩ : (fun W => VwIn (Vw.mk 5 a g q i0 r0 v.mine v.theirs) w W ∧ PkOf (vHd T s 0) ⟨#[120]⟩ H1 W ∧ PkOf (vHd T s 0) ⟨#[120]⟩ H3 W) wc2)
    clear hK K
    try simp only [Act.put, List.setIfInBounds_toArray, List.set_cons_zero, List.set_cons_succ]
    refine wpAnyT_takeK (i := 17) (d := 96) (Op.binOp BinOp.eql 3 (Operand.tmp 92) (Operand.tmp 95) 3) (.bool true) (by kernel_rfl) (by kernel_rfl) (by kernel_rfl) (by kernel_rfl) (by kernel_rfl) (fun _ _ _ h => h) ?_ hS ?_
    · intro o ho W hW
      unfold execOp
      rw [ho]
      go_simp
      (try rfl)
    try simp only [Act.put, List.setIfInBounds_toArray, List.set_cons_zero, List.set_cons_succ]
    refine wpAnyT_takeK (i := 18) (d := 97) (Op.pick (Operand.tmp 89) (Operand.tmp 96) (Operand.const (Value.bool false))) (.bool true) (by kernel_rfl) (by kernel_rfl) (by kernel_rfl) (by kernel_rfl) (by kernel_rfl) (fun _ _ _ h => h) ?_ hS ?_
    · intro o ho W hW
      unfold execOp
      rw [ho]
      go_simp
      (try rfl)
    try simp only [Act.put, List.setIfInBounds_toArray, List.set_cons_zero, List.set_cons_succ]
    refine wpAnyT_takeK (i := 19) (d := 8) (Op.assign (Operand.tmp 97)) (.bool true) (by kernel_rfl) (by kernel_rfl) (by kernel_rfl) (by kernel_rfl) (by kernel_rfl) (fun _ _ _ h => h) ?_ hS ?_
    · intro o ho W hW
      unfold execOp
      rw [ho]
      go_simp
    try simp only [Act.put, List.setIfInBounds_toArray, List.set_cons_zero, List.set_cons_succ]
    refine wpAnyT_done (by kernel_rfl) ?_ _
    go_wp2
    go_ret
    exact ⟨rfl, hS.1.bel⟩
  · have dT : decide (T = 2) = false := decide_eq_false hTT
    have bT : (T == 2) = false := by rw [beq_eq_false_iff_ne]; exact hTT
    rw [if_neg hTT, if_neg hTT] at HL
    have HPD := HPC
    have HPE := HPB
    have HVD := HVB
    obtain ⟨W12, hW12⟩ : ∃ X, W11 = X := ⟨_, rfl⟩
    rw [hW12] at HPD HPE HVD
    rw [hW12]
    clear hW12 HPB HPC HVB
    obtain ⟨J, hJ⟩ : ∃ J, (Vw.mk 5 a g q i0 r0 v.mine v.theirs).judge (vHd T s k) = J := ⟨_, rfl⟩
    have HCJ := Lib.hid (HC.out T s k (by omega) (by omega))
    rw [hJ] at HCJ
    clear hJ HC
    have hgz := fun op x y w => guardHd2 op x y (vHd T s k) (vHd T s k) w
    have heq : ∀ W, (binOp .eql 66 (vHd T s k).val (vHd T s k).val).run Tryz.prog W = .ok (.bool true) W := fun W => by have := eqlHd (vHd T s k) (vHd T s k) W; rwa [(Hd.eqB_iff _ _).2 rfl] at this
    go_upto_region 14 with (first
      | (refine load_vw rfl _ rfl w.heap.size rfl (Vw.mk 5 a g q i0 r0 v.mine v.theirs) HVD.out.vw ?_)
      | (refine load_pv rfl _ rfl H2 rfl { vHd T s2 k2 with x := false } _ ⟨#[120]⟩ HPE.out ?_)
      | (go_at_call 56; (with_reducible refine (HL.out _).mono ?_); rintro e W13 ⟨rfl, hb13⟩)
      | (refine store_pk rfl _ _ rfl _ Hd.zero (vHd T s k) _ _ ⟨#[120]⟩ none 0 0 rfl rfl (pk_fresh_at _ _ rfl) ?_; intro W14 hp14 hg14))
    obtain ⟨H3, hH3⟩ : ∃ H, W13.heap.size = H := ⟨_, rfl⟩
    have HV13 := Lib.hid (HVD.out.below hb13)
    have HP13 := Lib.hid (HPD.out.below hb13)
    have HH3 : Hid (H1 < H3) := Lib.hid (by rw [← hH3]; exact BlkIs.lt HP13.out)
    (try rw [hH3])
    rw [hH3] at hp14 hg14
    have HPF : Hid (PkOf (vHd T s k) ⟨#[120]⟩ H1 W14) := Lib.hid (PkOf.grown (BlkIs.alloc HP13.out _) hg14 (by have := HH3.out; omega))
    have HPG : Hid (PkOf (vHd T s k) ⟨#[120]⟩ H3 W14) := Lib.hid hp14
    have HVE : Hid (VwIn (Vw.mk 5 a g q i0 r0 v.mine v.theirs) w W14) := Lib.hid ((HV13.out.alloc _).grown hg14 (by have := HH1.out; have := HH3.out; omega))
    clear hp14 hg14 hH3 hb13 HV13 HP13 HVD HPD HPE HL
    refine wp_region_T (fun W => VwIn (Vw.mk 5 a g q i0 r0 v.mine v.theirs) w W ∧ PkOf (vHd T s k) ⟨#[120]⟩ H1 W ∧ PkOf (vHd T s k) ⟨#[120]⟩ H3 W) 20 (by kernel_rfl) ?_
    have hS := (⟨HVE.out.drew, HPF.out.below (bel_drewN _ 1), HPG.out.below (bel_drewN _ 1)⟩ : (fun W => VwIn (Vw.mk 5 a g q i0 r0 v.mine v.theirs) w W ∧ PkOf (vHd T s k) ⟨#[120]⟩ H1 W ∧ PkOf (vHd T s k) ⟨#[120]⟩ H3 W) W14.drew)
    refine wpAnyT_takeK (i := 0) (d := 79) (Op.fieldAddr 68 (Operand.tmp 14) 0) (.pointer (some ⟨H3, 0, none⟩)) (by kernel_rfl) (by kernel_rfl) (by kernel_rfl) (by kernel_rfl) (by kernel_rfl) (fun _ _ _ h => h) ?_ hS ?_
    · intro o ho W hW
      unfold execOp
      rw [ho]
      go_simp
    try simp only [Act.put, List.setIfInBounds_toArray, List.set_cons_zero, List.set_cons_succ]
    refine wpAnyT_takeK (i := 1) (d := 80) (Op.load 66 (Operand.tmp 79)) ((vHd T s k).val) (by kernel_rfl) (by kernel_rfl) (by kernel_rfl) (by kernel_rfl) (by kernel_rfl) (fun _ _ _ h => h) ?_ hS ?_
    · intro o ho W hW
      exact exec_load_hdp _ ho H3 rfl _ _ _ (show PkBlk (vHd T s k) (.slice none 0 0) ⟨#[120]⟩ H3 W from hW.2.2)
    try simp only [Act.put, List.setIfInBounds_toArray, List.set_cons_zero, List.set_cons_succ]
    refine wpAnyT_takeK (i := 2) (d := 81) (Op.fieldAddr 68 (Operand.tmp 12) 0) (.pointer (some ⟨H1, 0, none⟩)) (by kernel_rfl) (by kernel_rfl) (by kernel_rfl) (by kernel_rfl) (by kernel_rfl) (fun _ _ _ h => h) ?_ hS ?_
    · intro o ho W hW
      unfold execOp
      rw [ho]
      go_simp
    try simp only [Act.put, List.setIfInBounds_toArray, List.set_cons_zero, List.set_cons_succ]
    refine wpAnyT_takeK (i := 3) (d := 82) (Op.load 66 (Operand.tmp 81)) ((vHd T s k).val) (by kernel_rfl) (by kernel_rfl) (by kernel_rfl) (by kernel_rfl) (by kernel_rfl) (fun _ _ _ h => h) ?_ hS ?_
    · intro o ho W hW
      exact exec_load_hdp _ ho H1 rfl _ _ _ (show PkBlk (vHd T s k) (.slice none 0 0) ⟨#[120]⟩ H1 W from hW.2.1)
    try simp only [Act.put, List.setIfInBounds_toArray, List.set_cons_zero, List.set_cons_succ]
    refine wpAnyT_takeK (i := 4) (d := 83) (Op.binOp BinOp.eql 66 (Operand.tmp 80) (Operand.tmp 82) 66) (.bool true) (by kernel_rfl) (by kernel_rfl) (by kernel_rfl) (by kernel_rfl) (by kernel_rfl) (fun _ _ _ h => h) ?_ hS ?_
    · intro o ho W hW
      unfold execOp
      rw [ho]
      go_simp
      (try rfl)
    try simp only [Act.put, List.setIfInBounds_toArray, List.set_cons_zero, List.set_cons_succ]
    refine wpAnyT_takeK (i := 5) (d := 84) (Op.move (Operand.tmp 83)) (.bool true) (by kernel_rfl) (by kernel_rfl) (by kernel_rfl) (by kernel_rfl) (by kernel_rfl) (fun _ _ _ h => h) ?_ hS ?_
    · intro o ho W hW
      unfold execOp
      rw [ho]
      go_simp
    try simp only [Act.put, List.setIfInBounds_toArray, List.set_cons_zero, List.set_cons_succ]
    refine wpAnyT_takeK (i := 6) (d := 85) (Op.fieldAddr 68 (Operand.tmp 14) 2) (.pointer (some ⟨H3, 16, none⟩)) (by kernel_rfl) (by kernel_rfl) (by kernel_rfl) (by kernel_rfl) (by kernel_rfl) (fun _ _ _ h => h) ?_ hS ?_
    · intro o ho W hW
      unfold execOp
      rw [ho]
      go_simp
    try simp only [Act.put, List.setIfInBounds_toArray, List.set_cons_zero, List.set_cons_succ]
    refine wpAnyT_takeK (i := 7) (d := 86) (Op.load 9 (Operand.tmp 85)) (.string ⟨#[120]⟩) (by kernel_rfl) (by kernel_rfl) (by kernel_rfl) (by kernel_rfl) (by kernel_rfl) (fun _ _ _ h => h) ?_ hS ?_
    · intro o ho W hW
      have c : W.cell? ⟨H3, 16, none⟩ = some (.string ⟨#[120]⟩) := BlkIs.cell hW.2.2 16
      unfold execOp
      rw [ho]
      go_simp
    try simp only [Act.put, List.setIfInBounds_toArray, List.set_cons_zero, List.set_cons_succ]
    refine wpAnyT_takeK (i := 8) (d := 87) (Op.binOp BinOp.eql 9 (Operand.tmp 86) (Operand.const (Value.string { data := #[120] })) 9) (.bool true) (by kernel_rfl) (by kernel_rfl) (by kernel_rfl) (by kernel_rfl) (by kernel_rfl) (fun _ _ _ h => h) ?_ hS ?_
    · intro o ho W hW
      unfold execOp
      rw [ho]
      go_simp
      (try rfl)
    try simp only [Act.put, List.setIfInBounds_toArray, List.set_cons_zero, List.set_cons_succ]
    refine wpAnyT_takeK (i := 9) (d := 88) (Op.pick (Operand.tmp 84) (Operand.tmp 87) (Operand.const (Value.bool false))) (.bool true) (by kernel_rfl) (by kernel_rfl) (by kernel_rfl) (by kernel_rfl) (by kernel_rfl) (fun _ _ _ h => h) ?_ hS ?_
    · intro o ho W hW
      unfold execOp
      rw [ho]
      go_simp
      (try rfl)
    try simp only [Act.put, List.setIfInBounds_toArray, List.set_cons_zero, List.set_cons_succ]
    refine wpAnyT_takeK (i := 10) (d := 89) (Op.move (Operand.tmp 88)) (.bool true) (by kernel_rfl) (by kernel_rfl) (by kernel_rfl) (by kernel_rfl) (by kernel_rfl) (fun _ _ _ h => h) ?_ hS ?_
    · intro o ho W hW
      unfold execOp
      rw [ho]
      go_simp
    try simp only [Act.put, List.setIfInBounds_toArray, List.set_cons_zero, List.set_cons_succ]
    refine wpAnyT_takeK (i := 11) (d := 90) (Op.load 59 (Operand.tmp 4)) ((Vw.mk 5 a g q i0 r0 v.mine v.theirs).val) (by kernel_rfl) (by kernel_rfl) (by kernel_rfl) (by kernel_rfl) (by kernel_rfl) (fun _ _ _ h => h) ?_ hS ?_
    · intro o ho W hW
      exact exec_load_row 59 _ ho w.heap.size rfl 59 (vwCells (Vw.mk 5 a g q i0 r0 v.mine v.theirs)) (0, 0) _ (VwIn.vw hW.1) Tryz.underlying59 rfl infoVw
    try simp only [Act.put, List.setIfInBounds_toArray, List.set_cons_zero, List.set_cons_succ]
    refine wpAnyT_takeK (i := 12) (d := 91) (Op.load 68 (Operand.tmp 14)) (Pv (vHd T s k) (.slice none 0 0) ⟨#[120]⟩) (by kernel_rfl) (by kernel_rfl) (by kernel_rfl) (by kernel_rfl) (by kernel_rfl) (fun _ _ _ h => h) ?_ hS ?_
    · intro o ho W hW
      exact exec_load_row 68 _ ho H3 rfl 68 (pkCells (vHd T s k) (.slice none 0 0) ⟨#[120]⟩) (0, 0) _ (hW.2.2) Tryz.underlying68 rfl infoPk
    try simp only [Act.put, List.setIfInBounds_toArray, List.set_cons_zero, List.set_cons_succ]
    refine wpAnyT_takeK (i := 14) (d := 93) (Op.load 59 (Operand.tmp 4)) ((Vw.mk 5 a g q i0 r0 v.mine v.theirs).val) (by kernel_rfl) (by kernel_rfl) (by kernel_rfl) (by kernel_rfl) (by kernel_rfl) (fun _ _ _ h => h) ?_ hS ?_
    · intro o ho W hW
      exact exec_load_row 59 _ ho w.heap.size rfl 59 (vwCells (Vw.mk 5 a g q i0 r0 v.mine v.theirs)) (0, 0) _ (VwIn.vw hW.1) Tryz.underlying59 rfl infoVw
    try simp only [Act.put, List.setIfInBounds_toArray, List.set_cons_zero, List.set_cons_succ]
    refine wpAnyT_takeK (i := 15) (d := 94) (Op.load 68 (Operand.tmp 12)) (Pv (vHd T s k) (.slice none 0 0) ⟨#[120]⟩) (by kernel_rfl) (by kernel_rfl) (by kernel_rfl) (by kernel_rfl) (by kernel_rfl) (fun _ _ _ h => h) ?_ hS ?_
    · intro o ho W hW
      exact exec_load_row 68 _ ho H1 rfl 68 (pkCells (vHd T s k) (.slice none 0 0) ⟨#[120]⟩) (0, 0) _ (hW.2.1) Tryz.underlying68 rfl infoPk
    try simp only [Act.put, List.setIfInBounds_toArray, List.set_cons_zero, List.set_cons_succ]
    refine wpAnyT_ready (rs := [13]) (by kernel_rfl) (by simp) ?_
    refine (AllReadyT.cons (o := { dst := some 92, op := Op.call { callee := Callee.value (Operand.func 37), args := #[Operand.tmp 90, Operand.tmp 91], argTypes := #[59, 68] }, type := 3, pos := "three.go:169", after := #[{ on := 11, ground := Ground.data }, { on := 12, ground := Ground.data }, { on := 10, ground := Ground.chain }, { on := 10, ground := Ground.guard }], guard := some (10, true) }) (by kernel_rfl) (fun K hK => ?_) AllReadyT.nil)
    go_simp
    go_at_call 37
    with_reducible refine (HCJ.out _).mono ?_
    rintro e wc1 ⟨rfl, hbc1⟩
    refine hK.out _ _ (fun _ => ⟨hS.1.below hbc1, hS.2.1.below hbc1, hS.2.2.below hbc1⟩) ?_
    replace hS := (⟨hS.1.below hbc1, hS.2.1.below hbc1, hS.2.2.below hbc1⟩ : (fun W => VwIn (Vw.mk 5 a g q i0 r0 v.mine v.theirs) w W ∧ PkOf (vHd T s k) ⟨#[120]⟩ H1 W ∧ PkOf (vHd T s k) ⟨#[120]⟩ H3 W) wc1)
    clear hK K
    try simp only [Act.put, List.setIfInBounds_toArray, List.set_cons_zero, List.set_cons_succ]
    refine wpAnyT_ready (rs := [16]) (by kernel_rfl) (by simp) ?_
    refine (AllReadyT.cons (o := { dst := some 95, op := Op.call { callee := Callee.value (Operand.func 37), args := #[Operand.tmp 93, Operand.tmp 94], argTypes := #[59, 68] }, type := 3, pos := "three.go:169", after := #[{ on := 14, ground := Ground.data }, { on := 15, ground := Ground.data }, { on := 13, ground := Ground.chain }, { on := 10, ground := Ground.guard }], guard := some (10, true) }) (by kernel_rfl) (fun K hK => ?_) AllReadyT.nil)
    go_simp
    go_at_call 37
    with_reducible refine (HCJ.out _).mono ?_
    rintro e wc2 ⟨rfl, hbc2⟩
    refine hK.out _ _ (fun _ => ⟨hS.1.below hbc2, hS.2.1.below hbc2, hS.2.2.below hbc2⟩) ?_
    replace hS := (⟨hS.1.below hbc2, hS.2.1.below hbc2, hS.2.2.below hbc2⟩ : (fun W => VwIn (Vw.mk 5 a g q i0 r0 v.mine v.theirs) w W ∧ PkOf (vHd T s k) ⟨#[120]⟩ H1 W ∧ PkOf (vHd T s k) ⟨#[120]⟩ H3 W) wc2)
    clear hK K
    try simp only [Act.put, List.setIfInBounds_toArray, List.set_cons_zero, List.set_cons_succ]
    refine wpAnyT_takeK (i := 17) (d := 96) (Op.binOp BinOp.eql 3 (Operand.tmp 92) (Operand.tmp 95) 3) (.bool true) (by kernel_rfl) (by kernel_rfl) (by kernel_rfl) (by kernel_rfl) (by kernel_rfl) (fun _ _ _ h => h) ?_ hS ?_
    · intro o ho W hW
      unfold execOp
      rw [ho]
      go_simp
      (try rfl)
    try simp only [Act.put, List.setIfInBounds_toArray, List.set_cons_zero, List.set_cons_succ]
    refine wpAnyT_takeK (i := 18) (d := 97) (Op.pick (Operand.tmp 89) (Operand.tmp 96) (Operand.const (Value.bool false))) (.bool true) (by kernel_rfl) (by kernel_rfl) (by kernel_rfl) (by kernel_rfl) (by kernel_rfl) (fun _ _ _ h => h) ?_ hS ?_
    · intro o ho W hW
      unfold execOp
      rw [ho]
      go_simp
      (try rfl)
    try simp only [Act.put, List.setIfInBounds_toArray, List.set_cons_zero, List.set_cons_succ]
    refine wpAnyT_takeK (i := 19) (d := 8) (Op.assign (Operand.tmp 97)) (.bool true) (by kernel_rfl) (by kernel_rfl) (by kernel_rfl) (by kernel_rfl) (by kernel_rfl) (fun _ _ _ h => h) ?_ hS ?_
    · intro o ho W hW
      unfold execOp
      rw [ho]
      go_simp
    try simp only [Act.put, List.setIfInBounds_toArray, List.set_cons_zero, List.set_cons_succ]
    refine wpAnyT_done (by kernel_rfl) ?_ _
    go_wp2
    go_ret
    exact ⟨rfl, hS.1.bel⟩
end Go.Proofs.YtnhlachoimlhhaaGreatDoor
