/-
  The region of PktLarge that adds an option.
-/
import Derived.Test.YtjbcjcfmjagbkaaGreatDoorRegJ
import Derived.Test.YtjbcjcfmjagbkaaGreatDoorRegB
import Derived.Test.YtjbcjcfmjagbkaaGreatDoorLawCover
import Derived.Maps.AppendAt
namespace Go.Proofs.YtjbcjcfmjagbkaaGreatDoor
open Go.ChangeShapes Go.WideShapes Go.ChangeAt Go.RowKit
set_option linter.unusedVariables false
set_option linter.unusedSimpArgs false

theorem own_not {B : Nat} {v : Value} {os : List M.Opt} {W0 W : World} {h : Hd} {x : Value} {s : ByteArray} (ho : OptsOwn B v os W0 W) (hp : PkBlk h x s B W) : v.ownBlock ≠ some B := by
  intro e
  rcases ho.1.2 with ⟨rfl, h0⟩ | ⟨g, cap, cur, rfl, _, hg, _⟩
  · cases e
  · have e2 : g = B := by simpa [Value.ownBlock] using e
    subst e2
    have hp2 : W.heap[g]? = some (.cells (pkCells h x s) 49) := hp
    rw [hp2] at hg
    injection hg with hg
    injection hg with _ ht _
    revert ht
    decide

structure LgI (Gh : Hd) (D : ByteArray) (B : Nat) (v : Value) (os : List M.Opt) (p : M.Opt) (W0 : World) (L : Nat → Bool) (V : Nat → Value) (W : World) : Prop where
  bel : Below B W0 W ∧ B < W.heap.size
  c0 : L 0 = true → V 0 = .pointer (some ⟨B, 15, none⟩)
  c1 : L 1 = true → V 1 = v
  c2 : L 2 = true → ∃ H, V 2 = .slice (some ⟨H, 0, none⟩) 253 253 ∧ B < H ∧ some H ≠ v.ownBlock ∧ Rg.ZRow W H 253
  c3 : L 3 = true → V 3 = .string (str p.d)
  c4 : L 4 = true → V 4 = .agg #[.int .i64 p.t, .string (str p.d)]
  c5 : L 5 = true → ∃ H, V 5 = .slice (some ⟨H, 0, none⟩) 1 1 ∧ B < H ∧ some H ≠ v.ownBlock ∧ H < W.heap.size ∧ W.heap[H]? = some (OvBox p)
  c6 : L 6 = true → OptsOwn B (V 6) (os ++ [p]) W0 W
  d6 : L 6 = false → OptsOwn B v os W0 W
  c7 : L 7 = true → V 7 = .pointer (some ⟨B, 15, none⟩)
  c8 : L 8 = true → PkBlk Gh (V 6) D B W
  d8 : L 8 = false → PkBlk Gh v D B W
  ord : (L 3 = true → L 2 = true) ∧ (L 4 = true → L 2 = true) ∧ (L 5 = true → L 2 = true) ∧ (L 6 = true → L 5 = true ∧ L 1 = true ∧ L 2 = true) ∧ (L 8 = true → L 6 = true)

section
variable {Gh : Hd} {D : ByteArray} {B : Nat} {v : Value} {os : List M.Opt} {p : M.Opt} {W0 : World} {L : Nat → Bool} {V : Nat → Value} {W : World}
theorem LgI.s0 (h : LgI Gh D B v os p W0 L V W) (V' : Nat → Value) (hV : ∀ j, L j = true → V' j = V j) (hv : V' 0 = .pointer (some ⟨B, 15, none⟩)) : LgI Gh D B v os p W0 (fun j => j == 0 || L j) V' W := by
  refine ⟨h.bel, fun _ => hv, fun hl => ?_, fun hl => ?_, fun hl => ?_, fun hl => ?_, fun hl => ?_, fun hl => ?_, h.d6, fun hl => ?_, fun hl => ?_, h.d8, h.ord⟩
  · exact (hV 1 hl).trans (h.c1 hl)
  · rw [hV 2 hl]; exact h.c2 hl
  · exact (hV 3 hl).trans (h.c3 hl)
  · exact (hV 4 hl).trans (h.c4 hl)
  · rw [hV 5 hl]; exact h.c5 hl
  · rw [hV 6 hl]; exact h.c6 hl
  · exact (hV 7 hl).trans (h.c7 hl)
  · rw [hV 6 (h.ord.2.2.2.2 hl)]; exact h.c8 hl
theorem LgI.s1 (h : LgI Gh D B v os p W0 L V W) (V' : Nat → Value) (hV : ∀ j, L j = true → V' j = V j) (hv : V' 1 = v) : LgI Gh D B v os p W0 (fun j => j == 1 || L j) V' W := by
  refine ⟨h.bel, fun hl => ?_, fun _ => hv, fun hl => ?_, fun hl => ?_, fun hl => ?_, fun hl => ?_, fun hl => ?_, h.d6, fun hl => ?_, fun hl => ?_, h.d8, ?_⟩
  · exact (hV 0 hl).trans (h.c0 hl)
  · rw [hV 2 hl]; exact h.c2 hl
  · exact (hV 3 hl).trans (h.c3 hl)
  · exact (hV 4 hl).trans (h.c4 hl)
  · rw [hV 5 hl]; exact h.c5 hl
  · rw [hV 6 hl]; exact h.c6 hl
  · exact (hV 7 hl).trans (h.c7 hl)
  · rw [hV 6 (h.ord.2.2.2.2 hl)]; exact h.c8 hl
  · exact ⟨h.ord.1, h.ord.2.1, h.ord.2.2.1, fun hl => ⟨(h.ord.2.2.2.1 hl).1, rfl, (h.ord.2.2.2.1 hl).2.2⟩, h.ord.2.2.2.2⟩
theorem LgI.s3 (h : LgI Gh D B v os p W0 L V W) (h2 : L 2 = true) (V' : Nat → Value) (hV : ∀ j, L j = true → V' j = V j) (hv : V' 3 = .string (str p.d)) : LgI Gh D B v os p W0 (fun j => j == 3 || L j) V' W := by
  refine ⟨h.bel, fun hl => ?_, fun hl => ?_, fun hl => ?_, fun _ => hv, fun hl => ?_, fun hl => ?_, fun hl => ?_, h.d6, fun hl => ?_, fun hl => ?_, h.d8, ?_⟩
  · exact (hV 0 hl).trans (h.c0 hl)
  · exact (hV 1 hl).trans (h.c1 hl)
  · rw [hV 2 hl]; exact h.c2 hl
  · exact (hV 4 hl).trans (h.c4 hl)
  · rw [hV 5 hl]; exact h.c5 hl
  · rw [hV 6 hl]; exact h.c6 hl
  · exact (hV 7 hl).trans (h.c7 hl)
  · rw [hV 6 (h.ord.2.2.2.2 hl)]; exact h.c8 hl
  · exact ⟨fun _ => h2, h.ord.2.1, h.ord.2.2.1, h.ord.2.2.2.1, h.ord.2.2.2.2⟩
theorem LgI.s4 (h : LgI Gh D B v os p W0 L V W) (h3 : L 3 = true) (V' : Nat → Value) (hV : ∀ j, L j = true → V' j = V j) (hv : V' 4 = .agg #[.int .i64 p.t, .string (str p.d)]) : LgI Gh D B v os p W0 (fun j => j == 4 || L j) V' W := by
  refine ⟨h.bel, fun hl => ?_, fun hl => ?_, fun hl => ?_, fun hl => ?_, fun _ => hv, fun hl => ?_, fun hl => ?_, h.d6, fun hl => ?_, fun hl => ?_, h.d8, ?_⟩
  · exact (hV 0 hl).trans (h.c0 hl)
  · exact (hV 1 hl).trans (h.c1 hl)
  · rw [hV 2 hl]; exact h.c2 hl
  · exact (hV 3 hl).trans (h.c3 hl)
  · rw [hV 5 hl]; exact h.c5 hl
  · rw [hV 6 hl]; exact h.c6 hl
  · exact (hV 7 hl).trans (h.c7 hl)
  · rw [hV 6 (h.ord.2.2.2.2 hl)]; exact h.c8 hl
  · exact ⟨h.ord.1, fun _ => h.ord.1 h3, h.ord.2.2.1, h.ord.2.2.2.1, h.ord.2.2.2.2⟩
theorem LgI.s7 (h : LgI Gh D B v os p W0 L V W) (V' : Nat → Value) (hV : ∀ j, L j = true → V' j = V j) (hv : V' 7 = .pointer (some ⟨B, 15, none⟩)) : LgI Gh D B v os p W0 (fun j => j == 7 || L j) V' W := by
  refine ⟨h.bel, fun hl => ?_, fun hl => ?_, fun hl => ?_, fun hl => ?_, fun hl => ?_, fun hl => ?_, fun hl => ?_, h.d6, fun _ => hv, fun hl => ?_, h.d8, ?_⟩
  · exact (hV 0 hl).trans (h.c0 hl)
  · exact (hV 1 hl).trans (h.c1 hl)
  · rw [hV 2 hl]; exact h.c2 hl
  · exact (hV 3 hl).trans (h.c3 hl)
  · exact (hV 4 hl).trans (h.c4 hl)
  · rw [hV 5 hl]; exact h.c5 hl
  · rw [hV 6 hl]; exact h.c6 hl
  · rw [hV 6 (h.ord.2.2.2.2 hl)]; exact h.c8 hl
  · exact h.ord
theorem LgI.s2 (h : LgI Gh D B v os p W0 L V W) (hl2 : L 2 = false) {W' : World} (hb : Below W.heap.size W W') (hz : Rg.ZRow W' W.heap.size 253) (V' : Nat → Value) (hV : ∀ j, L j = true → V' j = V j) (hv : V' 2 = .slice (some ⟨W.heap.size, 0, none⟩) 253 253) : LgI Gh D B v os p W0 (fun j => j == 2 || L j) V' W' := by
  have n6 : L 6 = false := by
    cases e : L 6 with
    | false => rfl
    | true => have := (h.ord.2.2.2.1 e).2.2; rw [hl2] at this; cases this
  have n8 : L 8 = false := by
    cases e : L 8 with
    | false => rfl
    | true => have := h.ord.2.2.2.2 e; rw [n6] at this; cases this
  have ho := h.d6 n6
  refine ⟨⟨h.bel.1.trans (hb.mono (Nat.le_of_lt h.bel.2)), Nat.lt_of_lt_of_le h.bel.2 hb.size⟩, fun hl => (hV 0 hl).trans (h.c0 hl), fun hl => (hV 1 hl).trans (h.c1 hl), fun _ => ⟨_, hv, h.bel.2, fun e => ?_, hz⟩, fun hl => (hV 3 hl).trans (h.c3 hl), fun hl => (hV 4 hl).trans (h.c4 hl), fun hl => ?_, fun hl => ?_, fun _ => ho.kept hb, fun hl => (hV 7 hl).trans (h.c7 hl), fun hl => ?_, fun _ => (h.d8 n8).below hb, ?_⟩
  · have := (ho.lt _ e.symm).2; omega
  · have := h.ord.2.2.1 hl; rw [hl2] at this; cases this
  · have h6 : L 6 = true := hl
    rw [n6] at h6; cases h6
  · have h8 : L 8 = true := hl
    rw [n8] at h8; cases h8
  · exact ⟨fun _ => rfl, fun _ => rfl, fun _ => rfl, fun hl => ⟨(h.ord.2.2.2.1 hl).1, (h.ord.2.2.2.1 hl).2.1, rfl⟩, h.ord.2.2.2.2⟩
theorem LgI.s5 (h : LgI Gh D B v os p W0 L V W) (hl5 : L 5 = false) (hl4 : L 4 = true) (V' : Nat → Value) (hV : ∀ j, L j = true → V' j = V j) (hv : V' 5 = .slice (some ⟨W.heap.size, 0, none⟩) 1 1) : LgI Gh D B v os p W0 (fun j => j == 5 || L j) V' (W.alloc (OvBox p)) := by
  have hb := bel_alloc W (OvBox p)
  have n6 : L 6 = false := by
    cases e : L 6 with
    | false => rfl
    | true => have := (h.ord.2.2.2.1 e).1; rw [hl5] at this; cases this
  have n8 : L 8 = false := by
    cases e : L 8 with
    | false => rfl
    | true => have := h.ord.2.2.2.2 e; rw [n6] at this; cases this
  have ho := h.d6 n6
  refine ⟨⟨h.bel.1.trans (hb.mono (Nat.le_of_lt h.bel.2)), Nat.lt_of_lt_of_le h.bel.2 hb.size⟩, fun hl => (hV 0 hl).trans (h.c0 hl), fun hl => (hV 1 hl).trans (h.c1 hl), fun hl => ?_, fun hl => (hV 3 hl).trans (h.c3 hl), fun hl => (hV 4 hl).trans (h.c4 hl), fun _ => ⟨_, hv, h.bel.2, fun e => ?_, by simp, heap_alloc_new W _⟩, fun hl => ?_, fun _ => ho.kept hb, fun hl => (hV 7 hl).trans (h.c7 hl), fun hl => ?_, fun _ => (h.d8 n8).below hb, ?_⟩
  · obtain ⟨H, e1, e2, e3, e4⟩ := h.c2 hl
    exact ⟨H, (hV 2 hl).trans e1, e2, e3, e4.below hb⟩
  · have := (ho.lt _ e.symm).2; omega
  · have h6 : L 6 = true := hl
    rw [n6] at h6; cases h6
  · have h8 : L 8 = true := hl
    rw [n8] at h8; cases h8
  · exact ⟨h.ord.1, h.ord.2.1, fun _ => h.ord.2.1 hl4, fun hl => ⟨rfl, (h.ord.2.2.2.1 hl).2.1, (h.ord.2.2.2.1 hl).2.2⟩, h.ord.2.2.2.2⟩
/-- The append. -/
theorem LgI.s6 (h : LgI Gh D B v os p W0 L V W) (hl6 : L 6 = false) (hl1 : L 1 = true) (hl5 : L 5 = true) (hlen : os.length ≤ 1073741824) (ty : TypeId) :
    ∃ v' W', (Builtin.append_ #[47, 47] ty #[V 1, V 5]).run Tryz.prog W = .ok v' W' ∧ ∀ V' : Nat → Value, (∀ j, L j = true → V' j = V j) → V' 6 = v' → LgI Gh D B v os p W0 (fun j => j == 6 || L j) V' W' := by
  obtain ⟨i0, hi, hz0, hz1, hz2⟩ := info_parts infoOv2
  have n8 : L 8 = false := by
    cases e : L 8 with
    | false => rfl
    | true => have := h.ord.2.2.2.2 e; rw [hl6] at this; cases this
  have ho := h.d6 hl6
  have hp8 := h.d8 n8
  obtain ⟨H, e5, hBH, hHv, hHl, hbox⟩ := h.c5 hl5
  have hadd : ∀ j, (⟨H, 0, none⟩ : Addr).add j = ⟨H, j, none⟩ := fun j => by unfold Addr.add; split <;> simp_all
  obtain ⟨v', W', hr, ho', hg, _, _⟩ := run_append_own_at (P := Tryz.prog) (w := W) B 47 ty 56 i0 (.agg #[.int .i64 0, .string ⟨#[]⟩]) 2 24 Tryz.underlying47 hi hz0 hz1 hz2 rfl (by decide) v os.length (ovList os) ho.1 ⟨H, 0, none⟩ 1 1 [.int .i64 p.t, .string (str p.d)] rfl
    (fun j u hu => by rw [hadd, cell_of_row _ _ _ _ _ _ hbox]; simpa using hu) (by intro u hu; simp at hu; rcases hu with rfl | rfl <;> rfl) (by unfold maxLen; omega) (by omega) (Nat.le_of_lt h.bel.2)
  refine ⟨v', W', by rw [h.c1 hl1, e5]; exact hr, fun V' hV hv => ?_⟩
  have hbw : Below B W0 W' := ho.2.1.grown hg ho.2.2 (fun k hk => (ho.lt k hk).1)
  have ho2 : OptsOwn B v' (os ++ [p]) W0 W' := ⟨by rw [List.length_append, ovList_snoc]; exact ho', hbw, Nat.le_trans ho.2.2 hg.size⟩
  have hBn : some B ≠ v.ownBlock := fun e => own_not ho hp8 e.symm
  refine ⟨⟨hbw, Nat.lt_of_lt_of_le h.bel.2 hg.size⟩, fun hl => (hV 0 hl).trans (h.c0 hl), fun hl => (hV 1 hl).trans (h.c1 hl), fun hl => ?_, fun hl => (hV 3 hl).trans (h.c3 hl), fun hl => (hV 4 hl).trans (h.c4 hl), fun hl => ?_, fun _ => by rw [hv]; exact ho2, fun hl => ?_, fun hl => (hV 7 hl).trans (h.c7 hl), fun hl => ?_, fun _ => hp8.other hg hBn, ?_⟩
  · obtain ⟨H2, q1, q2, q3, q4⟩ := h.c2 hl
    refine ⟨H2, (hV 2 hl).trans q1, q2, q3, Nat.lt_of_lt_of_le q4.1 hg.size, fun j hj => ?_⟩
    have := q4.2 j hj
    unfold World.cell? at this ⊢
    rw [hg.block H2 q4.1 q3]; exact this
  · exact ⟨H, (hV 5 hl).trans e5, hBH, hHv, Nat.lt_of_lt_of_le hHl hg.size, by rw [hg.block H hHl hHv]; exact hbox⟩
  · have h6 : (true || L 6) = false := hl
    simp at h6
  · have h8 : L 8 = true := hl
    rw [n8] at h8; cases h8
  · exact ⟨h.ord.1, h.ord.2.1, h.ord.2.2.1, fun _ => ⟨hl5, hl1, h.ord.2.2.1 hl5⟩, fun _ => rfl⟩
/-- The store. -/
theorem LgI.s8 (h : LgI Gh D B v os p W0 L V W) (hl8 : L 8 = false) (hl6 : L 6 = true) (V' : Nat → Value) (hV : ∀ j, L j = true → V' j = V j) : LgI Gh D B v os p W0 (fun j => j == 8 || L j) V' (W.setCell ⟨B, 15, none⟩ (V 6)) := by
  have ho := h.c6 hl6
  have hp := h.d8 hl8
  have hg := grown_set W B 15 (V 6)
  have hnb := own_not ho hp
  have hb : Below B W0 (W.setCell ⟨B, 15, none⟩ (V 6)) := h.bel.1.setCell (p := ⟨B, 15, none⟩) (Nat.le_refl _) _
  have hset : PkBlk Gh (V 6) D B (W.setCell ⟨B, 15, none⟩ (V 6)) := by
    have a1 : W.heap[B]? = some (.cells (pkCells Gh v D) 49) := hp
    exact heap_setCell_same W B 15 _ _ (V 6) a1
  refine ⟨⟨hb, Nat.lt_of_lt_of_le h.bel.2 hg.size⟩, fun hl => (hV 0 hl).trans (h.c0 hl), fun hl => (hV 1 hl).trans (h.c1 hl), fun hl => ?_, fun hl => (hV 3 hl).trans (h.c3 hl), fun hl => (hV 4 hl).trans (h.c4 hl), fun hl => ?_, fun hl => ?_, fun hl => ?_, fun hl => (hV 7 hl).trans (h.c7 hl), fun _ => by rw [hV 6 hl6]; exact hset, fun hl => ?_, ?_⟩
  · obtain ⟨H2, q1, q2, q3, q4⟩ := h.c2 hl
    refine ⟨H2, (hV 2 hl).trans q1, q2, q3, Nat.lt_of_lt_of_le q4.1 hg.size, fun j hj => ?_⟩
    have := q4.2 j hj
    unfold World.cell? at this ⊢
    rw [hg.block H2 q4.1 (fun e => by have := Option.some.inj e; omega)]; exact this
  · obtain ⟨H, q1, q2, q3, q4, q5⟩ := h.c5 hl
    exact ⟨H, (hV 5 hl).trans q1, q2, q3, Nat.lt_of_lt_of_le q4 hg.size, by rw [hg.block H q4 (fun e => by have := Option.some.inj e; omega)]; exact q5⟩
  · rw [hV 6 hl6]
    exact ⟨ho.1.kept (row := some B) hg (.inr hnb), hb, Nat.le_trans ho.2.2 hg.size⟩
  · have h6 : L 6 = false := hl
    rw [hl6] at h6; cases h6
  · have h8 : (true || L 8) = false := hl
    simp at h8
  · exact ⟨h.ord.1, h.ord.2.1, h.ord.2.2.1, h.ord.2.2.2.1, fun _ => hl6⟩
end
theorem skipJ {Q : Exit → Act → World → Prop} {o : Oper} {a : Act} {w w' : World} {K' : Act → World → Prop} {X : Value → World → Prop}
    (hk : ∀ v w', X v w' → K' (a.put o.dst v) w') (hr : (execOp a.eval o).run Tryz.prog w = .ok .skip w') (hx : X undef w') : Oper.wp Tryz.prog o a w K' Q := by
  unfold Oper.wp; rw [hr]
  exact hk undef w' hx
theorem ex_opts (ρ : Operand → Value) (W : World) (o : Oper) (x : Operand) (B : Nat) (ho : o.op = .fieldAddr 49 x 1) (hx : ρ x = .pointer (some ⟨B, 0, none⟩)) :
    (execOp ρ o).run Tryz.prog W = .ok (.value (.pointer (some ⟨B, 15, none⟩))) W := by
  unfold execOp
  simp [go_sem, ho, hx]
theorem ex_load47 (ρ : Operand → Value) (W : World) (o : Oper) (x : Operand) (B : Nat) (v : Value) (ho : o.op = .load 47 x) (hx : ρ x = .pointer (some ⟨B, 15, none⟩)) (hc : W.cell? ⟨B, 15, none⟩ = some v) :
    (execOp ρ o).run Tryz.prog W = .ok (.value v) W := by
  unfold execOp
  simp [go_sem, ho, hx, hc]
set_option maxRecDepth 100000 in
theorem ex_build56 (ρ : Operand → Value) (W : World) (o : Oper) (x y : Operand) (n : Int) (s : ByteArray) (ho : o.op = .build 56 #[(0, x), (1, y)]) (hx : ρ x = .int .i64 n) (hy : ρ y = .string s) :
    (execOp ρ o).run Tryz.prog W = .ok (.value (.agg #[.int .i64 n, .string s])) W := by
  have hb : (Instr.build 56 #[(0, .int .i64 n), (1, .string s)]).run Tryz.prog W = .ok (.agg #[.int .i64 n, .string s]) W := run_build W _ _ _ (by kernel_rfl)
  unfold execOp
  simp only [ho, List.map_toArray, List.map_cons, List.map_nil, hx, hy, Sem.run_bind, hb, Result.andThen_ok]
  rfl
theorem ex_bslice (ρ : Operand → Value) (W : World) (o : Oper) (x : Operand) (p : M.Opt) (ho : o.op = .buildSlice 47 1 #[(0, x)]) (hx : ρ x = .agg #[.int .i64 p.t, .string (str p.d)]) :
    (execOp ρ o).run Tryz.prog W = .ok (.value (.slice (some ⟨W.heap.size, 0, none⟩) 1 1)) (W.alloc (OvBox p)) := by
  unfold execOp
  simp [go_sem, ho, hx, OvBox]
theorem ex_append (ρ : Operand → Value) (W : World) (o : Oper) (x y : Operand) (v u v' : Value) (W' : World) (ho : o.op = .call { callee := .builtin .append, args := #[x, y], argTypes := #[47, 47] }) (hx : ρ x = v) (hy : ρ y = u)
    (hr : (Builtin.append_ #[47, 47] o.type #[v, u]).run Tryz.prog W = .ok v' W') :
    (execOp ρ o).run Tryz.prog W = .ok (.value v') W' := by
  unfold execOp
  simp only [ho, resolve, invoke, builtin, Sem.run_bind, Sem.run_pure, Result.andThen_ok, List.map_toArray, List.map_cons, List.map_nil, hx, hy, hr]
theorem ex_store47 (ρ : Operand → Value) (W : World) (o : Oper) (x y : Operand) (B : Nat) (v : Value) (p : Option Addr) (n c : Nat) (ho : o.op = .store 47 x y) (hx : ρ x = .pointer (some ⟨B, 15, none⟩)) (hy : ρ y = .slice p n c) (hc : W.cell? ⟨B, 15, none⟩ = some v) (hf : W.frozen? ⟨B, 15, none⟩ = false) :
    (execOp ρ o).run Tryz.prog W = .ok .skip (W.setCell ⟨B, 15, none⟩ (.slice p n c)) := by
  unfold execOp
  simp [go_sem, ho, hx, hy, hc, hf]
end Go.Proofs.YtjbcjcfmjagbkaaGreatDoor
