/-
  The document's GetHead behind its faults: kinds of heads, texts cut out of bytes, the head as it grows.
-/
import Derived.Test.YtcdhllajdpalaaaGreatDoorRefGet
import Derived.Test.YtcdhllajdpalaaaGreatDoorGetR
import Derived.Test.YtcdhllajdpalaaaGreatDoorRegV
namespace Go.Proofs.YtcdhllajdpalaaaGreatDoor
open Go.ChangeShapes Go.WideShapes Go.ChangeAt Go.RowKit
set_option linter.unusedVariables false
set_option linter.unusedSimpArgs false

/-- What a kind of head has. -/
theorem get_kinds (t : Int) (x : Bool) (h : sizeN t x ≠ 0) :
    (x = false ∧ hasAckB t = false ∧ serviceB t = false ∧ codeB t = false ∧ sizeN t x = 12 ∧ (t == 0) = false ∧ (t == 1) = false ∧ (t == 7) = false) ∨
    (x = false ∧ hasAckB t = true ∧ serviceB t = false ∧ codeB t = false ∧ sizeN t x = 16 ∧ (t == 0) = false ∧ (t == 1) = false ∧ (t == 7) = false) ∨
    (x = true ∧ hasAckB t = false ∧ serviceB t = true ∧ codeB t = false ∧ sizeN t x = 20 ∧ (t == 0) = true ∧ (t == 1) = false ∧ (t == 7) = false) ∨
    (x = true ∧ hasAckB t = true ∧ serviceB t = true ∧ codeB t = false ∧ sizeN t x = 28 ∧ (t == 0) = false ∧ (t == 1) = true ∧ (t == 7) = false) ∨
    (x = true ∧ hasAckB t = false ∧ serviceB t = false ∧ codeB t = false ∧ sizeN t x = 16 ∧ (t == 0) = false ∧ (t == 1) = false ∧ (t == 7) = false) ∨
    (x = true ∧ hasAckB t = true ∧ serviceB t = false ∧ codeB t = true ∧ sizeN t x = 28 ∧ (t == 0) = false ∧ (t == 1) = false ∧ (t == 7) = true) ∨
    (x = true ∧ hasAckB t = true ∧ serviceB t = false ∧ codeB t = false ∧ sizeN t x = 24 ∧ (t == 0) = false ∧ (t == 1) = false ∧ (t == 7) = false) := by
  rcases type_cases t with h' | h' | h' | h' | h' | h' | h' | h' | h' | h' | h' | h'
  · exact absurd (sizeN_out x (.inl h')) h
  · exact absurd (sizeN_out x (.inr h')) h
  all_goals
    subst h'
    cases x <;> revert h <;> decide

/-- Texts cut out of bytes, as numbers. -/
theorem cut_num (l : List UInt8) (a b : Nat) (h1 : a ≤ b) (h2 : b ≤ l.length) (h3 : b ≤ a + 8) (A B : Int) (hA : A = (a : Int)) (hB : B = (b : Int)) :
    ∃ bs, ∃ n : Nat, (∀ W, (Instr.slice 9 (.string (str l)) (some (.int .i64 A)) (some (.int .i64 B)) none).run Tryz.prog W = .ok (.string bs) W) ∧ (∀ w, Calls Tryz.prog 44 #[.string bs] w fun e w' => e = .returned (.int .u64 n) ∧ w' = w) ∧ beNum ((l.drop a).take (b - a)) = n ∧ n < 256 ^ (b - a) := by
  subst hA hB
  refine ⟨_, _, fun W => slice2h l a b h1 h2 W, fun w => ?_, rfl, beNum_lt8 _ (by rw [List.length_take]; omega)⟩
  rw [List.drop_take]
  exact refNumber_q _ (by rw [List.length_take]; omega) _ rfl w
theorem cut_byte (l : List UInt8) (k : Nat) (h : k < l.length) (K : Int) (hK : K = (k : Int)) :
    ∃ n : Nat, (∀ W, (Instr.index 9 (.string (str l)) (.int .i64 K)).run Tryz.prog W = .ok (.int .u8 n) W) ∧ beNum ((l.drop k).take 1) = n ∧ n < 256 := by
  subst hK
  refine ⟨_, index_lit l k h _ rfl _ _ rfl rfl, byteAt_num l k h, byteAt_lt l k⟩

/-- The head g as it grows, in block H; the answer's block is still empty. -/
structure GS (g : Hd) (H : Nat) (t : Int) (x : Bool) (w W : World) : Prop where
  blk : HdBlk g H W
  t : g.type = t
  x : g.x = x
  zero : HdBlk Hd.zero w.heap.size W
  bel : Below w.heap.size w W
  lt : w.heap.size < H
section
variable {g : Hd} {H : Nat} {t : Int} {x : Bool} {w W : World}
theorem GS.c6 (h : GS g H t x w W) : W.cell? ⟨H, 6, none⟩ = some (.int .i64 t) := by rw [← h.t]; exact h.blk.at_.2.2.2.2.2.2.1
theorem GS.c7 (h : GS g H t x w W) : W.cell? ⟨H, 7, none⟩ = some (.bool x) := by rw [← h.x]; exact h.blk.at_.2.2.2.2.2.2.2.1
theorem GS.d8 (h : GS g H t x w W) : W.cell? ⟨H, 8, none⟩ = some (.int .u64 g.seq) := h.blk.at_.2.2.2.2.2.2.2.2.1
theorem GS.d9 (h : GS g H t x w W) : W.cell? ⟨H, 9, none⟩ = some (.int .u64 g.ack) := h.blk.at_.2.2.2.2.2.2.2.2.2.1
theorem GS.d10 (h : GS g H t x w W) : W.cell? ⟨H, 10, none⟩ = some (.int .u32 g.service) := h.blk.at_.2.2.2.2.2.2.2.2.2.2.1
theorem GS.d11 (h : GS g H t x w W) : W.cell? ⟨H, 11, none⟩ = some (.int .i64 g.code) := h.blk.at_.2.2.2.2.2.2.2.2.2.2.2.1
theorem GS.set (h : GS g H t x w W) (g2 : Hd) (i : Nat) (v : Value) (e : g.cellsA.setIfInBounds i v = g2.cellsA) (et : g2.type = g.type) (ex : g2.x = g.x) : GS g2 H t x w (W.setCell ⟨H, i, none⟩ v) :=
  ⟨h.blk.set g2 i v e, et.trans h.t, ex.trans h.x, h.zero.other (grown_set W H i v) (by have := h.lt; simp; omega), h.bel.grown (grown_set W H i v) h.bel.size (fun k hk => by cases hk; exact Nat.le_of_lt h.lt), h.lt⟩
end
/-- Three bytes are stored at once. -/
theorem GS.info {g : Hd} {H : Nat} {t : Int} {x : Bool} {w W : World} (h : GS g H t x w W) (a b c : Nat) : GS { g with i0 := a, i1 := b, i2 := c } H t x w (W.setCells H 12 [.int .u8 a, .int .u8 b, .int .u8 c]) :=
  ((h.set { g with i0 := a } 12 (.int .u8 a) rfl rfl rfl).set { g with i0 := a, i1 := b } 13 (.int .u8 b) rfl rfl rfl).set { g with i0 := a, i1 := b, i2 := c } 14 (.int .u8 c) rfl rfl rfl
theorem store_infoJ {Q : Exit → Act → World → Prop} {o : Oper} {a : Act} {w : World} {K' : Act → World → Prop} {X : Value → World → Prop}
    (hk : ∀ v w', X v w' → K' (a.put o.dst v) w') {x y : Operand} (ho : o.op = .store 24 x y) (H : Nat) (g : Hd) (p q r : Nat)
    (hx : a.eval x = .pointer (some ⟨H, 12, none⟩)) (hy : a.eval y = .agg #[.int .u8 p, .int .u8 q, .int .u8 r]) (hb : HdBlk g H w) (hX : X undef (w.setCells H 12 [.int .u8 p, .int .u8 q, .int .u8 r])) : Oper.wp Tryz.prog o a w K' Q := by
  refine wp_store_mid 24 x y ho H 12 #[.int .u8 p, .int .u8 q, .int .u8 r] hx hy (fun j hj => ⟨?_, hb.free _⟩) (by kernel_rfl) (by simp [Value.oneCell']) (hk _ _ hX)
  have hj3 : j < 3 := hj
  have c12 : w.cell? ⟨H, 12, none⟩ = some (.int .u8 g.i0) := hb.cell 12 _ rfl
  have c13 : w.cell? ⟨H, 13, none⟩ = some (.int .u8 g.i1) := hb.cell 13 _ rfl
  have c14 : w.cell? ⟨H, 14, none⟩ = some (.int .u8 g.i2) := hb.cell 14 _ rfl
  rcases j with _ | _ | _ | j
  · rw [c12]; rfl
  · rw [c13]; rfl
  · rw [c14]; rfl
  · omega
theorem ex_indexT (ρ : Operand → Value) (w : World) (o : Oper) (x y : Operand) (i : Int) (s : ByteArray) (b : Nat) (ho : o.op = .index 9 x y) (hx : ρ x = .string s) (h1 : ρ y = .int .i64 i)
    (hs : ∀ W, (Instr.index 9 (.string s) (.int .i64 i)).run Tryz.prog W = .ok (.int .u8 b) W) : (execOp ρ o).run Tryz.prog w = .ok (.value (.int .u8 b)) w := by
  unfold execOp
  rw [ho]
  simp [hx, h1, hs]
theorem ex_build3 (ρ : Operand → Value) (W : World) (o : Oper) (x y z : Operand) (a b c : Nat) (ho : o.op = .build 24 #[(0, x), (1, y), (2, z)]) (hx : ρ x = .int .u8 a) (hy : ρ y = .int .u8 b) (hz : ρ z = .int .u8 c) :
    (execOp ρ o).run Tryz.prog W = .ok (.value (.agg #[.int .u8 a, .int .u8 b, .int .u8 c])) W := by
  have hb : (Instr.build 24 #[(0, .int .u8 a), (1, .int .u8 b), (2, .int .u8 c)]).run Tryz.prog W = .ok (.agg #[.int .u8 a, .int .u8 b, .int .u8 c]) W := run_build W _ _ _ (by kernel_rfl)
  unfold execOp
  simp only [ho, List.map_toArray, List.map_cons, List.map_nil, hx, hy, hz, Sem.run_bind, hb, Result.andThen_ok]
  rfl
theorem ex_field4 (ρ : Operand → Value) (w : World) (o : Oper) (x : Operand) (C : Nat) (ho : o.op = .fieldAddr 26 x 12) (hp : ρ x = .pointer (some ⟨C, 0, none⟩)) :
    (execOp ρ o).run Tryz.prog w = .ok (.value (.pointer (some ⟨C, 12, none⟩))) w := by
  unfold execOp
  simp [go_sem, ho, hp]
/-- The quiet operations below m hold c's values; operation m has stored the bytes. -/
structure SI (m : Nat) (c : List Value) (g g2 : Hd) (H : Nat) (t : Int) (x : Bool) (w : World) (L : Nat → Bool) (V : Nat → Value) (W : World) : Prop where
  vals : ∀ i, i < m → L i = true → V i = c.getD i undef
  st : GS (if L m then g2 else g) H t x w W
section
variable {m : Nat} {c : List Value} {g g2 : Hd} {H : Nat} {t : Int} {x : Bool} {w : World} {L : Nat → Bool} {V : Nat → Value} {W : World}
theorem GS.drew (h : GS g H t x w W) : GS g H t x w W.drew := ⟨h.blk, h.t, h.x, h.zero, h.bel.drew, h.lt⟩
theorem SI.quiet (h : SI m c g g2 H t x w L V W) (i : Nat) (hi : i < m) (V' : Nat → Value) (hV : ∀ j, L j = true → V' j = V j) (hv : V' i = c.getD i undef) : SI m c g g2 H t x w (fun j => j == i || L j) V' W := by
  have e : (m == i || L m) = L m := by
    have : (m == i) = false := by rw [beq_eq_false_iff_ne]; omega
    rw [this, Bool.false_or]
  refine ⟨fun j hj hl => ?_, by simp only [e]; exact h.st⟩
  by_cases ej : j = i
  · subst ej; exact hv
  · have : (j == i) = false := by rw [beq_eq_false_iff_ne]; exact ej
    simp only [this, Bool.false_or] at hl
    rw [hV j hl]; exact h.vals j hj hl
theorem SI.store (h : SI m c g g2 H t x w L V W) {W' : World} (hb : GS g2 H t x w W') (V' : Nat → Value) (hV : ∀ j, L j = true → V' j = V j) : SI m c g g2 H t x w (fun j => j == m || L j) V' W' := by
  refine ⟨fun j hj hl => ?_, by simp only [beq_self_eq_true, Bool.true_or, if_true]; exact hb⟩
  have : (j == m) = false := by rw [beq_eq_false_iff_ne]; omega
  simp only [this, Bool.false_or] at hl
  rw [hV j hl]; exact h.vals j hj hl
end
end Go.Proofs.YtcdhllajdpalaaaGreatDoor
