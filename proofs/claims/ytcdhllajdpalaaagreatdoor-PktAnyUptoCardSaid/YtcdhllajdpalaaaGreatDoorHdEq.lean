/-
  Two heads compared.
-/
import Derived.Test.YtcdhllajdpalaaaGreatDoorHdC
import Derived.Test.YtcdhllajdpalaaaGreatDoorArr3
namespace Go.Proofs.YtcdhllajdpalaaaGreatDoor
open Go.ChangeShapes Go.WideShapes Go.ChangeAt Go.RowKit
set_option linter.unusedVariables false

/-- Are two heads one? -/
def Hd.eqB (g h : Hd) : Bool :=
  decide (g.src = h.src) && (decide (g.dst = h.dst) && (decide (g.off = h.off) && (decide (g.cc = h.cc) && (decide (g.cs = h.cs) && (decide (g.sum = h.sum) && (decide (g.type = h.type) && ((g.x == h.x) && (decide (g.seq = h.seq) && (decide (g.ack = h.ack) && (decide (g.service = h.service) && (decide (g.code = h.code) && decide (g.i0 = h.i0 ∧ g.i1 = h.i1 ∧ g.i2 = h.i2))))))))))))
theorem Hd.eqB_iff (g h : Hd) : g.eqB h = true ↔ g = h := by
  unfold Hd.eqB
  cases g; cases h
  simp

theorem part_hd (v0 v1 v2 v3 v4 v5 v6 v7 v8 v9 v10 v11 v12 v13 v14 : Value) (w : World) :
    (part 3 #[v0, v1, v2, v3, v4, v5, v6, v7, v8, v9, v10, v11, v12, v13, v14] 0).run Tryz.prog w = .ok v0 w ∧
    (part 3 #[v0, v1, v2, v3, v4, v5, v6, v7, v8, v9, v10, v11, v12, v13, v14] 1).run Tryz.prog w = .ok v1 w ∧
    (part 3 #[v0, v1, v2, v3, v4, v5, v6, v7, v8, v9, v10, v11, v12, v13, v14] 2).run Tryz.prog w = .ok v2 w ∧
    (part 3 #[v0, v1, v2, v3, v4, v5, v6, v7, v8, v9, v10, v11, v12, v13, v14] 3).run Tryz.prog w = .ok v3 w ∧
    (part 3 #[v0, v1, v2, v3, v4, v5, v6, v7, v8, v9, v10, v11, v12, v13, v14] 4).run Tryz.prog w = .ok v4 w ∧
    (part 3 #[v0, v1, v2, v3, v4, v5, v6, v7, v8, v9, v10, v11, v12, v13, v14] 5).run Tryz.prog w = .ok v5 w ∧
    (part 3 #[v0, v1, v2, v3, v4, v5, v6, v7, v8, v9, v10, v11, v12, v13, v14] 6).run Tryz.prog w = .ok v6 w ∧
    (part 4 #[v0, v1, v2, v3, v4, v5, v6, v7, v8, v9, v10, v11, v12, v13, v14] 7).run Tryz.prog w = .ok v7 w ∧
    (part 22 #[v0, v1, v2, v3, v4, v5, v6, v7, v8, v9, v10, v11, v12, v13, v14] 8).run Tryz.prog w = .ok v8 w ∧
    (part 22 #[v0, v1, v2, v3, v4, v5, v6, v7, v8, v9, v10, v11, v12, v13, v14] 9).run Tryz.prog w = .ok v9 w ∧
    (part 23 #[v0, v1, v2, v3, v4, v5, v6, v7, v8, v9, v10, v11, v12, v13, v14] 10).run Tryz.prog w = .ok v10 w ∧
    (part 3 #[v0, v1, v2, v3, v4, v5, v6, v7, v8, v9, v10, v11, v12, v13, v14] 11).run Tryz.prog w = .ok v11 w ∧
    (part 24 #[v0, v1, v2, v3, v4, v5, v6, v7, v8, v9, v10, v11, v12, v13, v14] 12).run Tryz.prog w = .ok (.agg #[v12, v13, v14]) w :=
  ⟨by kernel_rfl, by kernel_rfl, by kernel_rfl, by kernel_rfl, by kernel_rfl, by kernel_rfl, by kernel_rfl, by kernel_rfl, by kernel_rfl, by kernel_rfl, by kernel_rfl, by kernel_rfl, by kernel_rfl⟩

theorem eqF_cons {P : Program} {w : World} {d : Nat} {xs ys : Array Value} {f : Field} {fs : List Field} {a b : Value} {r c : Bool} (hn : (f.name ≠ "_") = True) (pa : (part f.type xs f.offset).run P w = .ok a w) (pb : (part f.type ys f.offset).run P w = .ok b w)
    (e : (Op.equalIn d f.type a b).run P w = .ok r w) (t : (Op.eqFields d xs ys fs).run P w = .ok c w) : (Op.eqFields d xs ys (f :: fs)).run P w = .ok (r && c) w := by
  unfold Op.eqFields
  rw [if_pos (by rw [hn]; trivial)]
  simp only [Sem.run_bind, pa, pb, e, Result.andThen_ok, Sem.run_ite, t, Sem.run_pure]
  cases r <;> rfl
theorem eqF_nil {P : Program} {w : World} {d : Nat} {xs ys : Array Value} : (Op.eqFields d xs ys []).run P w = .ok true w := rfl

set_option maxRecDepth 100000 in
theorem equalHd (g h : Hd) (w : World) : (Op.equalIn 10000 26 g.val h.val).run Tryz.prog w = .ok (g.eqB h) w := by
  have E : g.eqB h = ((g.src == h.src) && ((g.dst == h.dst) && ((g.off == h.off) && ((g.cc == h.cc) && ((g.cs == h.cs) && ((g.sum == h.sum) && ((g.type == h.type) && ((g.x == h.x) && (((g.seq : Int) == h.seq) && (((g.ack : Int) == h.ack) && (((g.service : Int) == h.service) && ((g.code == h.code) && (((g.i0 : Int) == h.i0 && ((g.i1 : Int) == h.i1 && (g.i2 : Int) == h.i2)) && true))))))))))))) := by
    unfold Hd.eqB
    rw [Bool.eq_iff_iff]
    simp
    intros
    omega
  rw [E]
  clear E
  unfold Hd.val
  rw [show (10000 : Nat) = 9997 + 1 + 1 + 1 from rfl, run_equalIn_struct w _ _ _ _ Tryz.underlying26 (by kernel_rfl)]
  have q3 := fun (a b c x y z : Int) (w : World) => equalIn3 9997 a b c x y z w
  have qi := fun (m n : Int) (w : World) => run_equalIn_int (P := Tryz.prog) w (9997 + 1) 3 .i64 .i64 m n Tryz.underlying3
  have q64 := fun (m n : Int) (w : World) => run_equalIn_int (P := Tryz.prog) w (9997 + 1) 22 .u64 .u64 m n Tryz.underlying22
  have q32 := fun (m n : Int) (w : World) => run_equalIn_int (P := Tryz.prog) w (9997 + 1) 23 .u32 .u32 m n Tryz.underlying23
  have qb := fun (m n : Bool) (w : World) => run_equalIn_bool' (P := Tryz.prog) w (9997 + 1) 4 m n Tryz.underlying4
  generalize 9997 + 1 + 1 = d at *
  simp only [Program.fieldsOf, Tryz.underlying26]
  obtain ⟨a0, a1, a2, a3, a4, a5, a6, a7, a8, a9, a10, a11, a12⟩ := part_hd (.int .i64 g.src) (.int .i64 g.dst) (.int .i64 g.off) (.int .i64 g.cc) (.int .i64 g.cs) (.int .i64 g.sum) (.int .i64 g.type) (.bool g.x) (.int .u64 g.seq) (.int .u64 g.ack) (.int .u32 g.service) (.int .i64 g.code) (.int .u8 g.i0) (.int .u8 g.i1) (.int .u8 g.i2) w
  obtain ⟨b0, b1, b2, b3, b4, b5, b6, b7, b8, b9, b10, b11, b12⟩ := part_hd (.int .i64 h.src) (.int .i64 h.dst) (.int .i64 h.off) (.int .i64 h.cc) (.int .i64 h.cs) (.int .i64 h.sum) (.int .i64 h.type) (.bool h.x) (.int .u64 h.seq) (.int .u64 h.ack) (.int .u32 h.service) (.int .i64 h.code) (.int .u8 h.i0) (.int .u8 h.i1) (.int .u8 h.i2) w
  refine eqF_cons (by simp) a0 b0 (qi _ _ w) ?_
  refine eqF_cons (by simp) a1 b1 (qi _ _ w) ?_
  refine eqF_cons (by simp) a2 b2 (qi _ _ w) ?_
  refine eqF_cons (by simp) a3 b3 (qi _ _ w) ?_
  refine eqF_cons (by simp) a4 b4 (qi _ _ w) ?_
  refine eqF_cons (by simp) a5 b5 (qi _ _ w) ?_
  refine eqF_cons (by simp) a6 b6 (qi _ _ w) ?_
  refine eqF_cons (by simp) a7 b7 (qb _ _ w) ?_
  refine eqF_cons (by simp) a8 b8 (q64 _ _ w) ?_
  refine eqF_cons (by simp) a9 b9 (q64 _ _ w) ?_
  refine eqF_cons (by simp) a10 b10 (q32 _ _ w) ?_
  refine eqF_cons (by simp) a11 b11 (qi _ _ w) ?_
  refine eqF_cons (by simp) a12 b12 (q3 _ _ _ _ _ _ w) ?_
  exact eqF_nil
/-- '==' of heads. -/
theorem eqlHd (g h : Hd) (w : World) : (binOp .eql 26 g.val h.val).run Tryz.prog w = .ok (.bool (g.eqB h)) w := by
  have e := equalHd g h w
  unfold Hd.val at e ⊢
  rw [run_eql_struct, e]; rfl
theorem neqHd (g h : Hd) (w : World) : (binOp .neq 26 g.val h.val).run Tryz.prog w = .ok (.bool (!g.eqB h)) w := by
  have e := equalHd g h w
  unfold Hd.val at e ⊢
  rw [run_neq_struct, e]; rfl
theorem guardHd (op : BinOp) (x y : Operand) (g : Hd) (cs : Array Value) (w : World) : (eqGuard op 26 x y g.val (.agg cs)).run Tryz.prog w = .ok () w :=
  run_eqGuard_agg w op _ x y _ _ (by kernel_rfl)
theorem guardHd2 (op : BinOp) (x y : Operand) (g h : Hd) (w : World) : (eqGuard op 26 x y g.val h.val).run Tryz.prog w = .ok () w :=
  run_eqGuard_agg w op _ x y _ _ (by kernel_rfl)
end Go.Proofs.YtcdhllajdpalaaaGreatDoor
