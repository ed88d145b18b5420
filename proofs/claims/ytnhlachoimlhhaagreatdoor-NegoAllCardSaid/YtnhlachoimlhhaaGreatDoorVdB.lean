/-
  Package valid: Check, of packets without options.
-/
import Derived.Test.YtnhlachoimlhhaaGreatDoorVdF
import Derived.Test.YtnhlachoimlhhaaGreatDoorVdL
import Derived.Test.YtnhlachoimlhhaaGreatDoorHeldK
namespace Go.Proofs.YtnhlachoimlhhaaGreatDoor
open Go.ChangeShapes Go.WideShapes Go.ChangeAt Go.RowKit
set_option linter.unusedVariables false
set_option linter.unusedSimpArgs false

theorem Vw.long_ok (v : Vw) (h : Hd) (hs : h.seq < 18446744073709551616) (ha : h.ack < 18446744073709551616) : (v.long h).seq < 18446744073709551616 ∧ (v.long h).ack < 18446744073709551616 := by
  unfold Vw.long
  split
  · exact ⟨hs, ha⟩
  · have h1 := longI_lt ((h.seq % 16777216 : Nat) : Int) v.gsr
    have h2 := longI_lt ((h.ack % 16777216 : Nat) : Int) v.gss
    refine ⟨by show (longI _ _).toNat < _; omega, ?_⟩
    show (if hasAckB h.type = true then (longI ((h.ack % 16777216 : Nat) : Int) v.gss).toNat else h.ack) < _
    split <;> omega
theorem exec_load_row {P : Program} {o : Oper} {ev : Operand → Value} {w : World} (ty : TypeId) (x : Operand) (ho : o.op = .load ty x) (g : Nat) (hx : ev x = .pointer (some ⟨g, 0, none⟩)) (t : TypeId) (cs : Array Value) (fr : Nat × Nat) (d : TypeDesc) (hg : w.heap[g]? = some (.cells cs t fr))
    (hu : P.underlying ty = some d) (hd : (match d with | .struct _ | .array _ _ => true | _ => false) = true) (hi : (P.info? ty).map (·.size) = some cs.size) : (execOp ev o).run P w = .ok (.value (.agg cs)) w := by
  unfold execOp
  simp only [ho, hx, Instr.loadAt, Instr.sureAddr, Sem.run_bind, Sem.run_pure, Result.andThen_ok, run_loadVar_row w g t ty cs fr d hg hu hd hi]
/-- A packet's head. -/
theorem field_hd (g : Hd) (q : Value) (s : ByteArray) (w : World) : (Instr.field 68 (.agg #[.int .i64 g.src, .int .i64 g.dst, .int .i64 g.off, .int .i64 g.cc, .int .i64 g.cs, .int .i64 g.sum, .int .i64 g.type, .bool g.x, .int .u64 g.seq, .int .u64 g.ack, .int .u32 g.service, .int .i64 g.code, .int .u8 g.i0, .int .u8 g.i1, .int .u8 g.i2, q, .string s]) 0).run Tryz.prog w = .ok (.agg #[.int .i64 g.src, .int .i64 g.dst, .int .i64 g.off, .int .i64 g.cc, .int .i64 g.cs, .int .i64 g.sum, .int .i64 g.type, .bool g.x, .int .u64 g.seq, .int .u64 g.ack, .int .u32 g.service, .int .i64 g.code, .int .u8 g.i0, .int .u8 g.i1, .int .u8 g.i2]) w := by kernel_rfl
/-- A view and a packet are boxed. -/
theorem vp_new (v : Vw) (h : Hd) (a : Option Addr) (n c : Nat) (s : ByteArray) (w : World) : ∃ P W, (w.alloc (.cells #[.int .i64 v.state, .int .u64 v.gss, .int .u64 v.gsr, .int .u64 v.gar, .int .u64 v.iss, .int .u64 v.isr, .int .i64 v.mine, .int .i64 v.theirs] 59)).heap.size = P ∧
    (w.alloc (.cells #[.int .i64 v.state, .int .u64 v.gss, .int .u64 v.gsr, .int .u64 v.gar, .int .u64 v.iss, .int .u64 v.isr, .int .i64 v.mine, .int .i64 v.theirs] 59)).alloc (.cells #[.int .i64 h.src, .int .i64 h.dst, .int .i64 h.off, .int .i64 h.cc, .int .i64 h.cs, .int .i64 h.sum, .int .i64 h.type, .bool h.x, .int .u64 h.seq, .int .u64 h.ack, .int .u32 h.service, .int .i64 h.code, .int .u8 h.i0, .int .u8 h.i1, .int .u8 h.i2, .slice a n c, .string s] 68) = W ∧
    BlkIs (vwCells v) 59 w.heap.size W ∧ PkBlk h (.slice a n c) s P W ∧ Below w.heap.size w W :=
  ⟨_, _, rfl, rfl, BlkIs.alloc (BlkIs.new (vwCells v) _ w) _, BlkIs.new (pkCells h (.slice a n c) s) _ _, bel_trans (bel_alloc _ _) (bel_alloc _ _)⟩
set_option maxHeartbeats 4000000 in
set_option maxRecDepth 100000 in
theorem vdCheck_from (v : Vw) (hv : v.Ok) (h : Hd) (a : Option Addr) (n c : Nat) (s : ByteArray) (g : Hd) (hs : g.seq < 18446744073709551616) (ha : g.ack < 18446744073709551616) (w : World)
    (HLO : Hid (∀ W, Below w.heap.size w W → Calls Tryz.prog 56 #[v.val, Pv h (.slice a n c) s] W fun e w' => (∃ q, e = .returned (Pv g q s)) ∧ Below W.heap.size W w')) :
    Calls Tryz.prog 37 #[v.val, Pv h (.slice a n c) s] w fun e w' => e = .returned (.int .i64 (v.judge g)) ∧ Below w.heap.size w w' := by
  have HAN := Lib.hid (fun W => vdAnswers_any v hv g ha W)
  have HFI := Lib.hid (fun W => vdFits_any v hv g hs ha W)
  have HEL := Lib.hid (fun W => vdElseOf_any g.type W)
  have HGO := Lib.hid (fun o b W => vdGoodOr_any o b W)
  obtain ⟨J, hJ⟩ : ∃ J, v.judge g = J := ⟨_, rfl⟩
  rw [hJ]
  unfold Vw.judge at hJ
  obtain ⟨P, W, hP, hW, hvw, hpk, hbw⟩ := vp_new v h a n c s w
  have HPK := Lib.hid hpk
  have HVW := Lib.hid hvw
  have HL1 := Lib.hid (HLO.out W hbw)
  have HBW := Lib.hid hbw
  have HHN := Lib.hid hd_new
  have hfd := fun q w => field_hd g q s w
  clear HLO hpk hvw hbw
  rw [show Pv h (.slice a n c) s = .agg #[.int .i64 h.src, .int .i64 h.dst, .int .i64 h.off, .int .i64 h.cc, .int .i64 h.cs, .int .i64 h.sum, .int .i64 h.type, .bool h.x, .int .u64 h.seq, .int .u64 h.ack, .int .u32 h.service, .int .i64 h.code, .int .u8 h.i0, .int .u8 h.i1, .int .u8 h.i2, .slice a n c, .string s] from rfl]
  unfold Vw.val
  go_enter Tryz.func37, Tryz.ntmps37
  go_upto_region 1 with fail
  clear hW hP
  go_upto_region 2 with (first
    | (refine load_vw rfl _ rfl w.heap.size rfl v HVW.out ?_)
    | (refine load_pv rfl _ rfl P rfl h _ s HPK.out ?_)
    | (go_at_call 56; (with_reducible refine HL1.out.mono ?_); rintro e w1 ⟨⟨q, rfl⟩, hb1⟩; unfold Pv)
    | (refine store_blk rfl _ _ rfl _ Hd.zero g rfl rfl (HHN.out _) ?_; intro W2 hc2 hg2))
  have hbb : Below w.heap.size w W2 := ((bel_trans HBW.out hb1).alloc (by have := HBW.out.size; have := hb1.size; omega) _).grown hg2 (by have := HBW.out.size; have := hb1.size; simp; omega) (fun k hk => by cases hk; have := HBW.out.size; have := hb1.size; omega)
  have hvw : BlkIs (vwCells v) 59 w.heap.size W2 := ((HVW.out.below hb1).alloc _).grown hg2 (by have := HVW.out.lt; have := hb1.size; simp; omega)
  have HHC : Hid (BlkIs g.cellsA 66 w1.heap.size W2) := Lib.hid hc2
  have c0 : W2.cell? ⟨w.heap.size, 0, none⟩ = some (.int .i64 v.state) := hvw.cell 0
  have HVW2 := Lib.hid hvw
  have HBB := Lib.hid hbb
  generalize w1.heap.size = C at *
  have c6 : W2.cell? ⟨C, 6, none⟩ = some (.int .i64 g.type) := HHC.out.cell 6
  clear hfd hc2 hg2 hb1 hbb hvw HL1 HVW HPK HBW HHN
  generalize ((decide (g.type = 1) || decide (g.type = 7)) && v.ackB g) = A at *
  generalize v.fitsB g = F at *
  generalize isSyncB g.type = S at *
  by_cases h0 : v.state = 0
  · have d0 : decide (v.state = 0) = true := decide_eq_true h0
    rw [if_pos (.inl h0)] at hJ
    subst hJ
    go_wp2
    go_ret
    exact ⟨rfl, HBB.out⟩
  have d0 : decide (v.state = 0) = false := decide_eq_false h0
  by_cases h8 : v.state = 8
  · have d8 : decide (v.state = 8) = true := decide_eq_true h8
    rw [if_pos (.inr h8)] at hJ
    subst hJ
    go_wp2
    go_ret
    exact ⟨rfl, HBB.out⟩
  have d8 : decide (v.state = 8) = false := decide_eq_false h8
  rw [if_neg (by omega)] at hJ
  by_cases h1 : v.state = 1
  · have d1 : decide (v.state = 1) = true := decide_eq_true h1
    rw [if_pos h1] at hJ
    obtain ⟨T, hT⟩ : ∃ T, g.type = T := ⟨_, rfl⟩
    rw [hT] at hJ c6
    clear hT
    by_cases ht : T = 0
    · rw [if_pos ht] at hJ
      subst hJ ht
      go_wp2_with (go_at_call 78; (with_reducible refine (HGO.out _ _ _).mono ?_); rintro e w2 ⟨rfl, rfl⟩)
      go_ret
      exact ⟨rfl, HBB.out⟩
    · rw [if_neg ht] at hJ
      subst hJ
      have htb : (T == 0) = false := by simpa using ht
      go_wp2_with (go_at_call 78; (with_reducible refine (HGO.out _ _ _).mono ?_); rintro e w2 ⟨rfl, rfl⟩)
      go_ret
      exact ⟨M.ret_int (by simp [ht]), HBB.out⟩
  have d1 : decide (v.state = 1) = false := decide_eq_false h1
  rw [if_neg h1] at hJ
  by_cases h2 : v.state = 2
  · have d2 : decide (v.state = 2) = true := decide_eq_true h2
    rw [if_pos h2] at hJ
    cases A
    all_goals
      simp at hJ
      subst hJ
      go_wp2_with (first
        | (refine load_vw rfl _ rfl w.heap.size rfl v HVW2.out ?_)
        | (refine load_hv rfl _ rfl C rfl g HHC.out ?_)
        | (go_at_call 79; (with_reducible refine (HAN.out _).mono ?_); rintro e w3 ⟨rfl, hb3⟩)
        | (go_at_call 78; (with_reducible refine (HGO.out _ _ _).mono ?_); rintro e w2 ⟨rfl, rfl⟩))
      go_ret
      exact ⟨rfl, bel_trans HBB.out hb3⟩
  have d2 : decide (v.state = 2) = false := decide_eq_false h2
  rw [if_neg h2] at hJ
  cases F <;> cases S
  · simp at hJ
    subst hJ
    go_upto_region 10 with fail
    refine wp_region_held_drew (S := fun X => BlkIs (vwCells v) 59 w.heap.size X ∧ BlkIs g.cellsA 66 C X) (by kernel_rfl) ⟨HVW2.out.drewN 1, HHC.out.drewN 1⟩ (fun hHeld => ?_)
    refine wpAnyH_takeK (i := 0) (d := 27) (.fieldAddr 66 (.tmp 5) 6) (.pointer (some ⟨C, 6, none⟩)) (by kernel_rfl) (by kernel_rfl) (by kernel_rfl) (by kernel_rfl) (fun _ _ _ h => h) ?_ (by assumption) ?_
    · intro o ho X hX
      unfold execOp
      rw [ho]
      go_simp
    try simp only [Act.put, List.setIfInBounds_toArray, List.set_cons_zero, List.set_cons_succ]
    refine wpAnyH_takeK (i := 1) (d := 28) (.load 3 (.tmp 27)) (.int .i64 g.type) (by kernel_rfl) (by kernel_rfl) (by kernel_rfl) (by kernel_rfl) (fun _ _ _ h => h) ?_ (by assumption) ?_
    · intro o ho X hX
      have c9 : X.cell? ⟨C, 6, none⟩ = some (.int .i64 g.type) := hX.2.cell 6
      unfold execOp
      rw [ho]
      go_simp
    try simp only [Act.put, List.setIfInBounds_toArray, List.set_cons_zero, List.set_cons_succ]
    refine wpAnyH_takeK (i := 3) (d := 30) (.load 59 (.tmp 2)) (v.val) (by kernel_rfl) (by kernel_rfl) (by kernel_rfl) (by kernel_rfl) (fun _ _ _ h => h) ?_ (by assumption) ?_
    · intro o ho X hX
      exact exec_load_row 59 (.tmp 2) ho w.heap.size rfl 59 (vwCells v) (0, 0) _ hX.1 Tryz.underlying59 rfl infoVw
    try simp only [Act.put, List.setIfInBounds_toArray, List.set_cons_zero, List.set_cons_succ]
    refine wpAnyH_takeK (i := 4) (d := 31) (.load 66 (.tmp 5)) (g.val) (by kernel_rfl) (by kernel_rfl) (by kernel_rfl) (by kernel_rfl) (fun _ _ _ h => h) ?_ (by assumption) ?_
    · intro o ho X hX
      exact exec_load_row 66 (.tmp 5) ho C rfl 66 g.cellsA (0, 0) _ hX.2 Tryz.underlying66 rfl infoHd
    try simp only [Act.put, List.setIfInBounds_toArray, List.set_cons_zero, List.set_cons_succ]
    refine wpAnyH_ready (rs := [2]) (by kernel_rfl) (by simp) ?_
    refine (AllReadyH.cons (o := { dst := some 29, op := Op.call { callee := Callee.value (Operand.func 80), args := #[Operand.tmp 28], argTypes := #[3] }, type := 3, pos := "valid.go:57", after := #[{ on := 1, ground := Ground.data }], guard := none }) (by kernel_rfl) (fun K hK => ?_) AllReadyH.nil)
    go_simp
    go_at_call 80
    with_reducible refine (HEL.out _).mono ?_
    rintro e w4 ⟨rfl, rfl⟩
    refine hK.out _ _ hHeld (fun hHeld => ?_)
    clear hK K
    try simp only [Act.put, List.setIfInBounds_toArray, List.set_cons_zero, List.set_cons_succ]
    refine wpAnyH_ready (rs := [5]) (by kernel_rfl) (by simp) ?_
    refine (AllReadyH.cons (o := { dst := some 32, op := Op.call { callee := Callee.value (Operand.func 81), args := #[Operand.tmp 30, Operand.tmp 31], argTypes := #[59, 66] }, type := 4, pos := "valid.go:57", after := #[{ on := 3, ground := Ground.data }, { on := 4, ground := Ground.data }, { on := 2, ground := Ground.chain }], guard := none }) (by kernel_rfl) (fun K hK => ?_) AllReadyH.nil)
    go_simp
    go_at_call 81
    with_reducible refine (HFI.out _).mono ?_
    rintro e w3 ⟨rfl, hb3⟩
    refine hK.out _ _ ⟨hHeld.1.below hb3, hHeld.2.below hb3⟩ (fun hHeld => ?_)
    clear hK K
    try simp only [Act.put, List.setIfInBounds_toArray, List.set_cons_zero, List.set_cons_succ]
    refine wpAnyH_ready (rs := [6]) (by kernel_rfl) (by simp) ?_
    refine (AllReadyH.cons (o := { dst := some 33, op := Op.call { callee := Callee.value (Operand.func 78), args := #[Operand.tmp 29, Operand.tmp 32], argTypes := #[3, 4] }, type := 3, pos := "valid.go:57", after := #[{ on := 2, ground := Ground.data }, { on := 5, ground := Ground.data }, { on := 5, ground := Ground.chain }], guard := none }) (by kernel_rfl) (fun K hK => ?_) AllReadyH.nil)
    go_simp
    go_at_call 78
    with_reducible refine (HGO.out _ _ _).mono ?_
    rintro e w5 ⟨rfl, rfl⟩
    refine hK.out _ _ hHeld (fun hHeld => ?_)
    clear hK K
    try simp only [Act.put, List.setIfInBounds_toArray, List.set_cons_zero, List.set_cons_succ]
    refine wpAnyH_takeK (i := 7) (d := 4) (.assign (.tmp 33)) (.int .i64 2) (by kernel_rfl) (by kernel_rfl) (by kernel_rfl) (by kernel_rfl) (fun _ _ _ h => h) ?_ (by assumption) ?_
    · intro o ho X hX
      unfold execOp
      rw [ho]
      go_simp
    try simp only [Act.put, List.setIfInBounds_toArray, List.set_cons_zero, List.set_cons_succ]
    refine wpAnyH_done (by kernel_rfl) ?_ _
    go_wp2
    go_ret
    exact ⟨rfl, bel_trans HBB.out (bel_trans (bel_drewN _ 1) hb3)⟩
  · simp at hJ
    subst hJ
    go_upto_region 10 with fail
    refine wp_region_held_drew (S := fun X => BlkIs (vwCells v) 59 w.heap.size X ∧ BlkIs g.cellsA 66 C X) (by kernel_rfl) ⟨HVW2.out.drewN 1, HHC.out.drewN 1⟩ (fun hHeld => ?_)
    refine wpAnyH_takeK (i := 0) (d := 27) (.fieldAddr 66 (.tmp 5) 6) (.pointer (some ⟨C, 6, none⟩)) (by kernel_rfl) (by kernel_rfl) (by kernel_rfl) (by kernel_rfl) (fun _ _ _ h => h) ?_ (by assumption) ?_
    · intro o ho X hX
      unfold execOp
      rw [ho]
      go_simp
    try simp only [Act.put, List.setIfInBounds_toArray, List.set_cons_zero, List.set_cons_succ]
    refine wpAnyH_takeK (i := 1) (d := 28) (.load 3 (.tmp 27)) (.int .i64 g.type) (by kernel_rfl) (by kernel_rfl) (by kernel_rfl) (by kernel_rfl) (fun _ _ _ h => h) ?_ (by assumption) ?_
    · intro o ho X hX
      have c9 : X.cell? ⟨C, 6, none⟩ = some (.int .i64 g.type) := hX.2.cell 6
      unfold execOp
      rw [ho]
      go_simp
    try simp only [Act.put, List.setIfInBounds_toArray, List.set_cons_zero, List.set_cons_succ]
    refine wpAnyH_takeK (i := 3) (d := 30) (.load 59 (.tmp 2)) (v.val) (by kernel_rfl) (by kernel_rfl) (by kernel_rfl) (by kernel_rfl) (fun _ _ _ h => h) ?_ (by assumption) ?_
    · intro o ho X hX
      exact exec_load_row 59 (.tmp 2) ho w.heap.size rfl 59 (vwCells v) (0, 0) _ hX.1 Tryz.underlying59 rfl infoVw
    try simp only [Act.put, List.setIfInBounds_toArray, List.set_cons_zero, List.set_cons_succ]
    refine wpAnyH_takeK (i := 4) (d := 31) (.load 66 (.tmp 5)) (g.val) (by kernel_rfl) (by kernel_rfl) (by kernel_rfl) (by kernel_rfl) (fun _ _ _ h => h) ?_ (by assumption) ?_
    · intro o ho X hX
      exact exec_load_row 66 (.tmp 5) ho C rfl 66 g.cellsA (0, 0) _ hX.2 Tryz.underlying66 rfl infoHd
    try simp only [Act.put, List.setIfInBounds_toArray, List.set_cons_zero, List.set_cons_succ]
    refine wpAnyH_ready (rs := [2]) (by kernel_rfl) (by simp) ?_
    refine (AllReadyH.cons (o := { dst := some 29, op := Op.call { callee := Callee.value (Operand.func 80), args := #[Operand.tmp 28], argTypes := #[3] }, type := 3, pos := "valid.go:57", after := #[{ on := 1, ground := Ground.data }], guard := none }) (by kernel_rfl) (fun K hK => ?_) AllReadyH.nil)
    go_simp
    go_at_call 80
    with_reducible refine (HEL.out _).mono ?_
    rintro e w4 ⟨rfl, rfl⟩
    refine hK.out _ _ hHeld (fun hHeld => ?_)
    clear hK K
    try simp only [Act.put, List.setIfInBounds_toArray, List.set_cons_zero, List.set_cons_succ]
    refine wpAnyH_ready (rs := [5]) (by kernel_rfl) (by simp) ?_
    refine (AllReadyH.cons (o := { dst := some 32, op := Op.call { callee := Callee.value (Operand.func 81), args := #[Operand.tmp 30, Operand.tmp 31], argTypes := #[59, 66] }, type := 4, pos := "valid.go:57", after := #[{ on := 3, ground := Ground.data }, { on := 4, ground := Ground.data }, { on := 2, ground := Ground.chain }], guard := none }) (by kernel_rfl) (fun K hK => ?_) AllReadyH.nil)
    go_simp
    go_at_call 81
    with_reducible refine (HFI.out _).mono ?_
    rintro e w3 ⟨rfl, hb3⟩
    refine hK.out _ _ ⟨hHeld.1.below hb3, hHeld.2.below hb3⟩ (fun hHeld => ?_)
    clear hK K
    try simp only [Act.put, List.setIfInBounds_toArray, List.set_cons_zero, List.set_cons_succ]
    refine wpAnyH_ready (rs := [6]) (by kernel_rfl) (by simp) ?_
    refine (AllReadyH.cons (o := { dst := some 33, op := Op.call { callee := Callee.value (Operand.func 78), args := #[Operand.tmp 29, Operand.tmp 32], argTypes := #[3, 4] }, type := 3, pos := "valid.go:57", after := #[{ on := 2, ground := Ground.data }, { on := 5, ground := Ground.data }, { on := 5, ground := Ground.chain }], guard := none }) (by kernel_rfl) (fun K hK => ?_) AllReadyH.nil)
    go_simp
    go_at_call 78
    with_reducible refine (HGO.out _ _ _).mono ?_
    rintro e w5 ⟨rfl, rfl⟩
    refine hK.out _ _ hHeld (fun hHeld => ?_)
    clear hK K
    try simp only [Act.put, List.setIfInBounds_toArray, List.set_cons_zero, List.set_cons_succ]
    refine wpAnyH_takeK (i := 7) (d := 4) (.assign (.tmp 33)) (.int .i64 3) (by kernel_rfl) (by kernel_rfl) (by kernel_rfl) (by kernel_rfl) (fun _ _ _ h => h) ?_ (by assumption) ?_
    · intro o ho X hX
      unfold execOp
      rw [ho]
      go_simp
    try simp only [Act.put, List.setIfInBounds_toArray, List.set_cons_zero, List.set_cons_succ]
    refine wpAnyH_done (by kernel_rfl) ?_ _
    go_wp2
    go_ret
    exact ⟨rfl, bel_trans HBB.out (bel_trans (bel_drewN _ 1) hb3)⟩
  · simp at hJ
    subst hJ
    go_upto_region 10 with fail
    refine wp_region_held_drew (S := fun X => BlkIs (vwCells v) 59 w.heap.size X ∧ BlkIs g.cellsA 66 C X) (by kernel_rfl) ⟨HVW2.out.drewN 1, HHC.out.drewN 1⟩ (fun hHeld => ?_)
    refine wpAnyH_takeK (i := 0) (d := 27) (.fieldAddr 66 (.tmp 5) 6) (.pointer (some ⟨C, 6, none⟩)) (by kernel_rfl) (by kernel_rfl) (by kernel_rfl) (by kernel_rfl) (fun _ _ _ h => h) ?_ (by assumption) ?_
    · intro o ho X hX
      unfold execOp
      rw [ho]
      go_simp
    try simp only [Act.put, List.setIfInBounds_toArray, List.set_cons_zero, List.set_cons_succ]
    refine wpAnyH_takeK (i := 1) (d := 28) (.load 3 (.tmp 27)) (.int .i64 g.type) (by kernel_rfl) (by kernel_rfl) (by kernel_rfl) (by kernel_rfl) (fun _ _ _ h => h) ?_ (by assumption) ?_
    · intro o ho X hX
      have c9 : X.cell? ⟨C, 6, none⟩ = some (.int .i64 g.type) := hX.2.cell 6
      unfold execOp
      rw [ho]
      go_simp
    try simp only [Act.put, List.setIfInBounds_toArray, List.set_cons_zero, List.set_cons_succ]
    refine wpAnyH_takeK (i := 3) (d := 30) (.load 59 (.tmp 2)) (v.val) (by kernel_rfl) (by kernel_rfl) (by kernel_rfl) (by kernel_rfl) (fun _ _ _ h => h) ?_ (by assumption) ?_
    · intro o ho X hX
      exact exec_load_row 59 (.tmp 2) ho w.heap.size rfl 59 (vwCells v) (0, 0) _ hX.1 Tryz.underlying59 rfl infoVw
    try simp only [Act.put, List.setIfInBounds_toArray, List.set_cons_zero, List.set_cons_succ]
    refine wpAnyH_takeK (i := 4) (d := 31) (.load 66 (.tmp 5)) (g.val) (by kernel_rfl) (by kernel_rfl) (by kernel_rfl) (by kernel_rfl) (fun _ _ _ h => h) ?_ (by assumption) ?_
    · intro o ho X hX
      exact exec_load_row 66 (.tmp 5) ho C rfl 66 g.cellsA (0, 0) _ hX.2 Tryz.underlying66 rfl infoHd
    try simp only [Act.put, List.setIfInBounds_toArray, List.set_cons_zero, List.set_cons_succ]
    refine wpAnyH_ready (rs := [2]) (by kernel_rfl) (by simp) ?_
    refine (AllReadyH.cons (o := { dst := some 29, op := Op.call { callee := Callee.value (Operand.func 80), args := #[Operand.tmp 28], argTypes := #[3] }, type := 3, pos := "valid.go:57", after := #[{ on := 1, ground := Ground.data }], guard := none }) (by kernel_rfl) (fun K hK => ?_) AllReadyH.nil)
    go_simp
    go_at_call 80
    with_reducible refine (HEL.out _).mono ?_
    rintro e w4 ⟨rfl, rfl⟩
    refine hK.out _ _ hHeld (fun hHeld => ?_)
    clear hK K
    try simp only [Act.put, List.setIfInBounds_toArray, List.set_cons_zero, List.set_cons_succ]
    refine wpAnyH_ready (rs := [5]) (by kernel_rfl) (by simp) ?_
    refine (AllReadyH.cons (o := { dst := some 32, op := Op.call { callee := Callee.value (Operand.func 81), args := #[Operand.tmp 30, Operand.tmp 31], argTypes := #[59, 66] }, type := 4, pos := "valid.go:57", after := #[{ on := 3, ground := Ground.data }, { on := 4, ground := Ground.data }, { on := 2, ground := Ground.chain }], guard := none }) (by kernel_rfl) (fun K hK => ?_) AllReadyH.nil)
    go_simp
    go_at_call 81
    with_reducible refine (HFI.out _).mono ?_
    rintro e w3 ⟨rfl, hb3⟩
    refine hK.out _ _ ⟨hHeld.1.below hb3, hHeld.2.below hb3⟩ (fun hHeld => ?_)
    clear hK K
    try simp only [Act.put, List.setIfInBounds_toArray, List.set_cons_zero, List.set_cons_succ]
    refine wpAnyH_ready (rs := [6]) (by kernel_rfl) (by simp) ?_
    refine (AllReadyH.cons (o := { dst := some 33, op := Op.call { callee := Callee.value (Operand.func 78), args := #[Operand.tmp 29, Operand.tmp 32], argTypes := #[3, 4] }, type := 3, pos := "valid.go:57", after := #[{ on := 2, ground := Ground.data }, { on := 5, ground := Ground.data }, { on := 5, ground := Ground.chain }], guard := none }) (by kernel_rfl) (fun K hK => ?_) AllReadyH.nil)
    go_simp
    go_at_call 78
    with_reducible refine (HGO.out _ _ _).mono ?_
    rintro e w5 ⟨rfl, rfl⟩
    refine hK.out _ _ hHeld (fun hHeld => ?_)
    clear hK K
    try simp only [Act.put, List.setIfInBounds_toArray, List.set_cons_zero, List.set_cons_succ]
    refine wpAnyH_takeK (i := 7) (d := 4) (.assign (.tmp 33)) (.int .i64 1) (by kernel_rfl) (by kernel_rfl) (by kernel_rfl) (by kernel_rfl) (fun _ _ _ h => h) ?_ (by assumption) ?_
    · intro o ho X hX
      unfold execOp
      rw [ho]
      go_simp
    try simp only [Act.put, List.setIfInBounds_toArray, List.set_cons_zero, List.set_cons_succ]
    refine wpAnyH_done (by kernel_rfl) ?_ _
    go_wp2
    go_ret
    exact ⟨rfl, bel_trans HBB.out (bel_trans (bel_drewN _ 1) hb3)⟩
  · simp at hJ
    subst hJ
    go_upto_region 10 with fail
    refine wp_region_held_drew (S := fun X => BlkIs (vwCells v) 59 w.heap.size X ∧ BlkIs g.cellsA 66 C X) (by kernel_rfl) ⟨HVW2.out.drewN 1, HHC.out.drewN 1⟩ (fun hHeld => ?_)
    refine wpAnyH_takeK (i := 0) (d := 27) (.fieldAddr 66 (.tmp 5) 6) (.pointer (some ⟨C, 6, none⟩)) (by kernel_rfl) (by kernel_rfl) (by kernel_rfl) (by kernel_rfl) (fun _ _ _ h => h) ?_ (by assumption) ?_
    · intro o ho X hX
      unfold execOp
      rw [ho]
      go_simp
    try simp only [Act.put, List.setIfInBounds_toArray, List.set_cons_zero, List.set_cons_succ]
    refine wpAnyH_takeK (i := 1) (d := 28) (.load 3 (.tmp 27)) (.int .i64 g.type) (by kernel_rfl) (by kernel_rfl) (by kernel_rfl) (by kernel_rfl) (fun _ _ _ h => h) ?_ (by assumption) ?_
    · intro o ho X hX
      have c9 : X.cell? ⟨C, 6, none⟩ = some (.int .i64 g.type) := hX.2.cell 6
      unfold execOp
      rw [ho]
      go_simp
    try simp only [Act.put, List.setIfInBounds_toArray, List.set_cons_zero, List.set_cons_succ]
    refine wpAnyH_takeK (i := 3) (d := 30) (.load 59 (.tmp 2)) (v.val) (by kernel_rfl) (by kernel_rfl) (by kernel_rfl) (by kernel_rfl) (fun _ _ _ h => h) ?_ (by assumption) ?_
    · intro o ho X hX
      exact exec_load_row 59 (.tmp 2) ho w.heap.size rfl 59 (vwCells v) (0, 0) _ hX.1 Tryz.underlying59 rfl infoVw
    try simp only [Act.put, List.setIfInBounds_toArray, List.set_cons_zero, List.set_cons_succ]
    refine wpAnyH_takeK (i := 4) (d := 31) (.load 66 (.tmp 5)) (g.val) (by kernel_rfl) (by kernel_rfl) (by kernel_rfl) (by kernel_rfl) (fun _ _ _ h => h) ?_ (by assumption) ?_
    · intro o ho X hX
      exact exec_load_row 66 (.tmp 5) ho C rfl 66 g.cellsA (0, 0) _ hX.2 Tryz.underlying66 rfl infoHd
    try simp only [Act.put, List.setIfInBounds_toArray, List.set_cons_zero, List.set_cons_succ]
    refine wpAnyH_ready (rs := [2]) (by kernel_rfl) (by simp) ?_
    refine (AllReadyH.cons (o := { dst := some 29, op := Op.call { callee := Callee.value (Operand.func 80), args := #[Operand.tmp 28], argTypes := #[3] }, type := 3, pos := "valid.go:57", after := #[{ on := 1, ground := Ground.data }], guard := none }) (by kernel_rfl) (fun K hK => ?_) AllReadyH.nil)
    go_simp
    go_at_call 80
    with_reducible refine (HEL.out _).mono ?_
    rintro e w4 ⟨rfl, rfl⟩
    refine hK.out _ _ hHeld (fun hHeld => ?_)
    clear hK K
    try simp only [Act.put, List.setIfInBounds_toArray, List.set_cons_zero, List.set_cons_succ]
    refine wpAnyH_ready (rs := [5]) (by kernel_rfl) (by simp) ?_
    refine (AllReadyH.cons (o := { dst := some 32, op := Op.call { callee := Callee.value (Operand.func 81), args := #[Operand.tmp 30, Operand.tmp 31], argTypes := #[59, 66] }, type := 4, pos := "valid.go:57", after := #[{ on := 3, ground := Ground.data }, { on := 4, ground := Ground.data }, { on := 2, ground := Ground.chain }], guard := none }) (by kernel_rfl) (fun K hK => ?_) AllReadyH.nil)
    go_simp
    go_at_call 81
    with_reducible refine (HFI.out _).mono ?_
    rintro e w3 ⟨rfl, hb3⟩
    refine hK.out _ _ ⟨hHeld.1.below hb3, hHeld.2.below hb3⟩ (fun hHeld => ?_)
    clear hK K
    try simp only [Act.put, List.setIfInBounds_toArray, List.set_cons_zero, List.set_cons_succ]
    refine wpAnyH_ready (rs := [6]) (by kernel_rfl) (by simp) ?_
    refine (AllReadyH.cons (o := { dst := some 33, op := Op.call { callee := Callee.value (Operand.func 78), args := #[Operand.tmp 29, Operand.tmp 32], argTypes := #[3, 4] }, type := 3, pos := "valid.go:57", after := #[{ on := 2, ground := Ground.data }, { on := 5, ground := Ground.data }, { on := 5, ground := Ground.chain }], guard := none }) (by kernel_rfl) (fun K hK => ?_) AllReadyH.nil)
    go_simp
    go_at_call 78
    with_reducible refine (HGO.out _ _ _).mono ?_
    rintro e w5 ⟨rfl, rfl⟩
    refine hK.out _ _ hHeld (fun hHeld => ?_)
    clear hK K
    try simp only [Act.put, List.setIfInBounds_toArray, List.set_cons_zero, List.set_cons_succ]
    refine wpAnyH_takeK (i := 7) (d := 4) (.assign (.tmp 33)) (.int .i64 1) (by kernel_rfl) (by kernel_rfl) (by kernel_rfl) (by kernel_rfl) (fun _ _ _ h => h) ?_ (by assumption) ?_
    · intro o ho X hX
      unfold execOp
      rw [ho]
      go_simp
    try simp only [Act.put, List.setIfInBounds_toArray, List.set_cons_zero, List.set_cons_succ]
    refine wpAnyH_done (by kernel_rfl) ?_ _
    go_wp2
    go_ret
    exact ⟨rfl, bel_trans HBB.out (bel_trans (bel_drewN _ 1) hb3)⟩
theorem vdCheck_nil (v : Vw) (hv : v.Ok) (h : Hd) (hs : h.seq < 18446744073709551616) (ha : h.ack < 18446744073709551616) (s : ByteArray) (w : World) :
    Calls Tryz.prog 37 #[v.val, Pv h (.slice none 0 0) s] w fun e w' => e = .returned (.int .i64 (v.judge (v.long h))) ∧ Below w.heap.size w w' :=
  vdCheck_from v hv h none 0 0 s (v.long h) (v.long_ok h hs ha).1 (v.long_ok h hs ha).2 w (Lib.hid (fun W _ => (vdLong_nil v hv h hs ha s W).mono fun e w' ⟨a, b⟩ => ⟨⟨_, a⟩, b⟩))
end Go.Proofs.YtnhlachoimlhhaaGreatDoor
