/-
  Package valid: Long, of packets without options.
-/
import Derived.Test.YtnhlachoimlhhaaGreatDoorVdA
import Derived.Lib.SliceRun
namespace Go.Proofs.YtnhlachoimlhhaaGreatDoor
open Go.ChangeShapes Go.WideShapes Go.ChangeAt Go.RowKit
set_option linter.unusedVariables false
set_option linter.unusedSimpArgs false

set_option maxRecDepth 100000 in
theorem cloneO_nil (w : World) : Calls Tryz.prog 95 #[.slice none 0 0] w fun e w' => e = .returned (.slice none 0 0) ∧ w = w' := by
  have hE : ∀ w : World, (binOp .eql 28 (.slice none 0 0) (.slice none 0 0)).run Tryz.prog w = .ok (.bool true) w := fun w => Lib.run_eql_slice_nil w 28 106 none 0 0 0 0 (by rfl)
  go_enter Tryz.func95, Tryz.ntmps95
  go_wp2
  go_ret
  exact ⟨rfl, rfl⟩
/-- A whole packet loaded, guarded or not. -/
theorem load_pv {ops : Array Oper} {rest : List Oper} {o : Oper} {a : Act} {w : World} {Q : Exit → Act → World → Prop} (hgd : Region.wanted o (yielded ops a.tmps) = true) (x : Operand) (ho : o.op = .load 68 x)
    (C : Nat) (hx : a.eval x = .pointer (some ⟨C, 0, none⟩)) (h : Hd) (v : Value) (s : ByteArray) (hb : PkBlk h v s C w)
    (hh : wpList Tryz.prog ops Q rest (a.put o.dst (Pv h v s)) w) : wpList Tryz.prog ops Q (o :: rest) a w :=
  BigFrame.wpList_want hgd fun _ hK => wp_load_row 68 x ho C hx 68 (pkCells h v s) (0, 0) _ hb Tryz.underlying68 rfl infoPk (hK _ _ hh)
theorem results_pk {fn : Func} {p : Tmp} (h : fn.results = #[.cell p 68]) (tmps : Array Value) (w : World) (g : Nat) (hd : Hd) (v : Value) (s : ByteArray) (hp : tmps.getD p undef = .pointer (some ⟨g, 0, none⟩)) (hb : PkBlk hd v s g w) :
    (results fn tmps).run Tryz.prog w = .ok (Pv hd v s) w :=
  results_cell_row h tmps w g 68 (pkCells hd v s) (0, 0) _ hp hb Tryz.underlying68 rfl infoPk
/-- What Long holds: the view at A, the packet at P, the answer's place at R. -/
structure LgAt (v : Vw) (g : Hd) (s : ByteArray) (P R : Nat) (w W : World) : Prop where
  vw : BlkIs (vwCells v) 59 w.heap.size W
  pk : BlkIs (pkCells g (.slice none 0 0) s) 68 P W
  rs : PkBlk Hd.zero (.slice none 0 0) ⟨#[]⟩ R W
  ap : w.heap.size < P
  pr : P < R
  bel : Below w.heap.size w W
theorem lg_new (v : Vw) (h : Hd) (s : ByteArray) (w : World) : ∃ P R W, (w.alloc (.cells #[.int .i64 v.state, .int .u64 v.gss, .int .u64 v.gsr, .int .u64 v.gar, .int .u64 v.iss, .int .u64 v.isr, .int .i64 v.mine, .int .i64 v.theirs] 59)).heap.size = P ∧
    ((w.alloc (.cells #[.int .i64 v.state, .int .u64 v.gss, .int .u64 v.gsr, .int .u64 v.gar, .int .u64 v.iss, .int .u64 v.isr, .int .i64 v.mine, .int .i64 v.theirs] 59)).alloc (.cells #[.int .i64 h.src, .int .i64 h.dst, .int .i64 h.off, .int .i64 h.cc, .int .i64 h.cs, .int .i64 h.sum, .int .i64 h.type, .bool h.x, .int .u64 h.seq, .int .u64 h.ack, .int .u32 h.service, .int .i64 h.code, .int .u8 h.i0, .int .u8 h.i1, .int .u8 h.i2, .slice none 0 0, .string s] 68)).heap.size = R ∧
    ((w.alloc (.cells #[.int .i64 v.state, .int .u64 v.gss, .int .u64 v.gsr, .int .u64 v.gar, .int .u64 v.iss, .int .u64 v.isr, .int .i64 v.mine, .int .i64 v.theirs] 59)).alloc (.cells #[.int .i64 h.src, .int .i64 h.dst, .int .i64 h.off, .int .i64 h.cc, .int .i64 h.cs, .int .i64 h.sum, .int .i64 h.type, .bool h.x, .int .u64 h.seq, .int .u64 h.ack, .int .u32 h.service, .int .i64 h.code, .int .u8 h.i0, .int .u8 h.i1, .int .u8 h.i2, .slice none 0 0, .string s] 68)).alloc (.cells #[.int .i64 0, .int .i64 0, .int .i64 0, .int .i64 0, .int .i64 0, .int .i64 0, .int .i64 0, .bool false, .int .u64 0, .int .u64 0, .int .u32 0, .int .i64 0, .int .u8 0, .int .u8 0, .int .u8 0, .slice none 0 0, .string ⟨#[]⟩] 68) = W ∧
    LgAt v h s P R w W := by
  refine ⟨_, _, _, rfl, rfl, rfl, ⟨BlkIs.alloc (BlkIs.alloc (BlkIs.new (vwCells v) _ w) _) _, BlkIs.alloc (BlkIs.new (pkCells h (.slice none 0 0) s) _ _) _, BlkIs.new (pkCells Hd.zero (.slice none 0 0) ⟨#[]⟩) _ _, ?_, ?_, bel_trans (bel_alloc _ _) (bel_trans (bel_alloc _ _) (bel_alloc _ _))⟩⟩
  · simp
  · simp
theorem LgAt.set {v : Vw} {g : Hd} {s : ByteArray} {P R : Nat} {w W : World} (a : LgAt v g s P R w W) (g2 : Hd) (i : Nat) (x : Value) (e : (pkCells g (.slice none 0 0) s).setIfInBounds i x = pkCells g2 (.slice none 0 0) s) : LgAt v g2 s P R w (W.setCell ⟨P, i, none⟩ x) := by
  refine ⟨a.vw.far (p := ⟨P, i, none⟩) (by have := a.ap; show _ ≠ P; omega) _, ?_, BlkIs.far a.rs (p := ⟨P, i, none⟩) (by have := a.pr; show R ≠ P; omega) _, a.ap, a.pr, a.bel.setCell (p := ⟨P, i, none⟩) (Nat.le_of_lt a.ap) _⟩
  rw [← e]
  exact a.pk.set i x
theorem LgAt.drewN {v : Vw} {g : Hd} {s : ByteArray} {P R : Nat} {w W : World} (a : LgAt v g s P R w W) (n : Nat) : LgAt v g s P R w (W.drewN n) :=
  ⟨a.vw.drewN n, a.pk.drewN n, BlkIs.drewN a.rs n, a.ap, a.pr, bel_trans a.bel (bel_drewN _ _)⟩
theorem LgAt.cells {v : Vw} {g : Hd} {s : ByteArray} {P R : Nat} {w W : World} (a : LgAt v g s P R w W) : W.cell? ⟨w.heap.size, 1, none⟩ = some (.int .u64 v.gss) ∧ W.cell? ⟨w.heap.size, 2, none⟩ = some (.int .u64 v.gsr) ∧
    W.cell? ⟨P, 6, none⟩ = some (.int .i64 g.type) ∧ W.cell? ⟨P, 7, none⟩ = some (.bool g.x) ∧ W.cell? ⟨P, 8, none⟩ = some (.int .u64 g.seq) ∧ W.cell? ⟨P, 9, none⟩ = some (.int .u64 g.ack) ∧ W.cell? ⟨P, 15, none⟩ = some (.slice none 0 0) := by
  rw [a.vw.cell, a.vw.cell, a.pk.cell, a.pk.cell, a.pk.cell, a.pk.cell, a.pk.cell]
  exact ⟨rfl, rfl, rfl, rfl, rfl, rfl, rfl⟩
set_option maxHeartbeats 4000000 in
set_option maxRecDepth 100000 in
theorem vdLong_nil (v : Vw) (hv : v.Ok) (h : Hd) (hs : h.seq < 18446744073709551616) (ha : h.ack < 18446744073709551616) (s : ByteArray) (w : World) :
    Calls Tryz.prog 56 #[v.val, Pv h (.slice none 0 0) s] w fun e w' => e = .returned (Pv (v.long h) (.slice none 0 0) s) ∧ Below w.heap.size w w' := by
  have HCL := Lib.hid (fun W => cloneO_nil W)
  obtain ⟨P, R, W, hP, hR, hW, hl⟩ := lg_new v h s w
  obtain ⟨_, _, _, _, _, _, c15⟩ := hl.cells
  have f15 := hl.pk.free 15
  have HL := Lib.hid hl
  clear hl
  obtain ⟨G, hG⟩ : ∃ G, v.long h = G := ⟨_, rfl⟩
  rw [hG]
  unfold Vw.long at hG
  unfold Vw.val
  rw [show Pv h (.slice none 0 0) s = .agg #[.int .i64 h.src, .int .i64 h.dst, .int .i64 h.off, .int .i64 h.cc, .int .i64 h.cs, .int .i64 h.sum, .int .i64 h.type, .bool h.x, .int .u64 h.seq, .int .u64 h.ack, .int .u32 h.service, .int .i64 h.code, .int .u8 h.i0, .int .u8 h.i1, .int .u8 h.i2, .slice none 0 0, .string s] from rfl]
  go_enter Tryz.func56, Tryz.ntmps56
  go_upto_region 1 with fail
  clear hW hR hP
  go_upto_region 2 with (go_at_call 95; (with_reducible refine (HCL.out _).mono ?_); rintro e w1 ⟨rfl, rfl⟩)
  obtain ⟨W1, hW1⟩ : ∃ W1, W.setCell ⟨P, 15, none⟩ (.slice none 0 0) = W1 := ⟨_, rfl⟩
  have HL1 : Hid (LgAt v h s P R w W1) := Lib.hid (by rw [← hW1]; exact HL.out.set h 15 _ rfl)
  rw [hW1]
  clear hW1 c15 f15 HL HCL
  have c7 := HL1.out.cells.2.2.2.1
  have f7 := HL1.out.pk.free 7
  cases hx : h.x
  · rw [hx] at c7 hG
    rw [if_neg (by decide)] at hG
    have HSS := Lib.hid (fun W => seqShort_any h.seq hs W)
    have HSA := Lib.hid (fun W => seqShort_any h.ack ha W)
    have HLS : Hid (∀ W, Calls Tryz.prog 96 #[.int .u32 ((h.seq : Int) % 16777216), .int .u64 v.gsr] W fun e w' => e = .returned (.int .u64 ((longI (h.seq % 16777216 : Nat) v.gsr).toNat : Nat)) ∧ W = w') := Lib.hid (fun W => by
      rw [longI_nat]; exact seqLong_any (h.seq % 16777216) v.gsr (by omega) hv.gsr W)
    have HLA : Hid (∀ W, Calls Tryz.prog 96 #[.int .u32 ((h.ack : Int) % 16777216), .int .u64 v.gss] W fun e w' => e = .returned (.int .u64 ((longI (h.ack % 16777216 : Nat) v.gss).toNat : Nat)) ∧ W = w') := Lib.hid (fun W => by
      rw [longI_nat]; exact seqLong_any (h.ack % 16777216) v.gss (by omega) hv.gss W)
    have HHA := Lib.hid (fun W => hasAck_any h.type W)
    generalize (longI (h.seq % 16777216 : Nat) v.gsr).toNat = S2 at *
    generalize (longI (h.ack % 16777216 : Nat) v.gss).toNat = A2 at *
    go_upto_region 5 with fail
    obtain ⟨W2, hW2⟩ : ∃ W2, W1.setCell ⟨P, 7, none⟩ (.bool true) = W2 := ⟨_, rfl⟩
    have HL2 : Hid (LgAt v { h with x := true } s P R w W2) := Lib.hid (by rw [← hW2]; exact HL1.out.set { h with x := true } 7 _ rfl)
    rw [hW2]
    clear hW2 c7 f7 HL1
    obtain ⟨d1, d2, d6, d7, d8, d9, _⟩ := HL2.out.cells
    have f8 := HL2.out.pk.free 8
    dsimp only at d6 d7 d8 d9
    apply wp_one_end
    case h1 =>
      go_region_with (first
        | (go_at_call 97; (with_reducible refine (HSS.out _).mono ?_); rintro e w5 ⟨rfl, rfl⟩)
        | (go_at_call 96; (with_reducible refine (HLS.out _).mono ?_); rintro e w6 ⟨rfl, rfl⟩))
      all_goals exact ⟨rfl, rfl⟩
    obtain ⟨W3, hW3⟩ : ∃ W3, (W2.setCell ⟨P, 8, none⟩ (.int .u64 S2)).drew = W3 := ⟨_, rfl⟩
    have HL3 : Hid (LgAt v { h with x := true, seq := S2 } s P R w W3) := Lib.hid (by rw [← hW3]; exact (HL2.out.set { h with x := true, seq := S2 } 8 _ rfl).drewN 1)
    rw [hW3]
    clear hW3 d1 d2 d6 d7 d8 d9 f8 HL2 HLS HSS
    obtain ⟨d1, d2, d6, d7, d8, d9, _⟩ := HL3.out.cells
    have f9 := HL3.out.pk.free 9
    dsimp only at d6 d7 d8 d9
    cases hk : hasAckB h.type
    · rw [hk] at HHA hG
      rw [if_neg (by decide)] at hG
      subst hG
      go_wp2_with (first
        | (go_at_call 98; (with_reducible refine (HHA.out _).mono ?_); rintro e w7 ⟨rfl, rfl⟩)
        | (refine load_pv rfl _ rfl P rfl { h with x := true, seq := S2 } _ s HL3.out.pk ?_)
        | (refine store_pk rfl _ _ rfl R Hd.zero { h with x := true, seq := S2 } _ _ s none 0 0 rfl rfl HL3.out.rs ?_; intro W4 hr4 hg4))
      refine bodyPost_ret (results_pk Tryz.results56 _ _ R { h with x := true, seq := S2 } _ s rfl hr4) rfl ⟨rfl, ?_⟩
      exact HL3.out.bel.grown hg4 HL3.out.bel.size (fun k hk => by cases hk; have := HL3.out.ap; have := HL3.out.pr; omega)
    · rw [hk] at HHA hG
      rw [if_pos rfl] at hG
      subst hG
      go_upto_region 7 with (go_at_call 98; (with_reducible refine (HHA.out _).mono ?_); rintro e w7 ⟨rfl, rfl⟩)
      apply wp_one_end
      case h1 =>
        go_region_with (first
          | (go_at_call 97; (with_reducible refine (HSA.out _).mono ?_); rintro e w5 ⟨rfl, rfl⟩)
          | (go_at_call 96; (with_reducible refine (HLA.out _).mono ?_); rintro e w6 ⟨rfl, rfl⟩))
        all_goals exact ⟨rfl, rfl⟩
      obtain ⟨W5, hW5⟩ : ∃ W5, (W3.setCell ⟨P, 9, none⟩ (.int .u64 A2)).drew = W5 := ⟨_, rfl⟩
      have HL5 : Hid (LgAt v { h with x := true, seq := S2, ack := A2 } s P R w W5) := Lib.hid (by rw [← hW5]; exact (HL3.out.set { h with x := true, seq := S2, ack := A2 } 9 _ rfl).drewN 1)
      rw [hW5]
      clear hW5 d1 d2 d6 d7 d8 d9 f9 HL3 HLA HSA
      go_wp2_with (first
        | (refine load_pv rfl _ rfl P rfl { h with x := true, seq := S2, ack := A2 } _ s HL5.out.pk ?_)
        | (refine store_pk rfl _ _ rfl R Hd.zero { h with x := true, seq := S2, ack := A2 } _ _ s none 0 0 rfl rfl HL5.out.rs ?_; intro W4 hr4 hg4))
      refine bodyPost_ret (results_pk Tryz.results56 _ _ R { h with x := true, seq := S2, ack := A2 } _ s rfl hr4) rfl ⟨rfl, ?_⟩
      exact HL5.out.bel.grown hg4 HL5.out.bel.size (fun k hk => by cases hk; have := HL5.out.ap; have := HL5.out.pr; omega)
  · rw [hx] at c7 hG
    rw [if_pos rfl] at hG
    subst hG
    go_wp2_with (first
      | (refine load_pv rfl _ rfl P rfl h _ s HL1.out.pk ?_)
      | (refine store_pk rfl _ _ rfl R Hd.zero h _ _ s none 0 0 rfl rfl HL1.out.rs ?_; intro W2 hr2 hg2))
    refine bodyPost_ret (results_pk Tryz.results56 _ _ R h _ s rfl hr2) rfl ⟨rfl, ?_⟩
    exact HL1.out.bel.grown hg2 HL1.out.bel.size (fun k hk => by cases hk; have := HL1.out.ap; have := HL1.out.pr; omega)
end Go.Proofs.YtnhlachoimlhhaaGreatDoor
