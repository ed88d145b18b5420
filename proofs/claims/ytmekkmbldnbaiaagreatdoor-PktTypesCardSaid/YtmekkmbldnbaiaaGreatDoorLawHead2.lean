/-
  The law HeadPrefix, walked.
-/
import Derived.Test.YtmekkmbldnbaiaaGreatDoorLawSum
import Derived.Test.YtmekkmbldnbaiaaGreatDoorMayH
import Derived.Test.YtmekkmbldnbaiaaGreatDoorHdEq
import Derived.Test.YtmekkmbldnbaiaaGreatDoorPkB
import Derived.Test.YtmekkmbldnbaiaaGreatDoorOpenHd
namespace Go.Proofs.YtmekkmbldnbaiaaGreatDoor
open Go.ChangeShapes Go.WideShapes Go.ChangeAt Go.RowKit
set_option linter.unusedVariables false

/-- A whole head loaded, guarded or not. -/
theorem load_blk_w {ops : Array Oper} {rest : List Oper} {o : Oper} {a : Act} {w : World} {Q : Exit → Act → World → Prop} (hgd : Region.wanted o (yielded ops a.tmps) = true) (x : Operand) (ho : o.op = .load 26 x)
    (C : Nat) (hx : a.eval x = .pointer (some ⟨C, 0, none⟩)) (h : Hd) (hb : HdBlk h C w)
    (hh : wpList Tryz.prog ops Q rest (a.put o.dst h.val) w) : wpList Tryz.prog ops Q (o :: rest) a w :=
  BigFrame.wpList_want hgd fun _ hK => wp_load_row 26 x ho C hx 26 h.cellsA (0, 0) _ hb Tryz.underlying26 rfl infoHd (hK _ _ hh)
theorem slice_to (l : List UInt8) (u : Nat) (h2 : u ≤ l.length) (W : World) :
    (Instr.slice 9 (.string (str l)) none (some (.int .i64 (u : Int))) none).run Tryz.prog W = .ok (.string (str (l.take u))) W := by
  have e := str_extract l 0 u
  rw [List.drop_zero] at e
  rw [← e]
  go_simp
  rw [str_size]
  omega
theorem eqlZ : ∀ w : World, (binOp .eql 26 Hd.zero.val (Value.agg #[Value.int IntKind.i64 0, Value.int IntKind.i64 0, Value.int IntKind.i64 0, Value.int IntKind.i64 0, Value.int IntKind.i64 0, Value.int IntKind.i64 0, Value.int IntKind.i64 0, Value.bool false, Value.int IntKind.u64 0, Value.int IntKind.u64 0, Value.int IntKind.u32 0, Value.int IntKind.i64 0, Value.int IntKind.u8 0, Value.int IntKind.u8 0, Value.int IntKind.u8 0])).run Tryz.prog w = .ok (.bool true) w := fun w => eqlHd Hd.zero Hd.zero w

set_option maxHeartbeats 4000000 in
set_option maxRecDepth 100000 in
theorem headPrefix_walk (h : Hd) (hok : h.ok) (cut : Int) (b1 : -9223372036854775808 ≤ cut) (b2 : cut ≤ 9223372036854775807) (w : World) :
    Calls Tryz.prog 15 #[h.val, .int .i64 cut] w fun e w' => e = .returned (.bool true) ∧ Below w.heap.size w w' := by
  obtain ⟨q1, q2, q3, q4, q5, q6⟩ := hok
  have HMY := Lib.hid (fun w => refMay_any h w)
  have hz : h.box = Obj.cells #[.int .i64 h.src, .int .i64 h.dst, .int .i64 h.off, .int .i64 h.cc, .int .i64 h.cs, .int .i64 h.sum, .int .i64 h.type, .bool h.x, .int .u64 h.seq, .int .u64 h.ack, .int .u32 h.service, .int .i64 h.code, .int .u8 h.i0, .int .u8 h.i1, .int .u8 h.i2] 26 := rfl
  have HA : Hid (HdBlk h w.heap.size (w.alloc h.box) ∧ Below w.heap.size w (w.alloc h.box)) := Lib.hid ⟨heap_alloc_new w _, bel_alloc _ _⟩
  rw [hz] at HA
  clear hz
  by_cases hm : h.mayB = true
  · have HPT := Lib.hid (fun w => put_yes h w hm q1 q2 q3 q4 q5 q6)
    have hlen : h.bytes.length = sizeN h.type h.x := bytes_len hm
    have h12 : 12 ≤ sizeN h.type h.x := by
      have := (mayB_more hm).1
      have := sizeN_four h.type h.x
      have := size_parts (mayB_more hm).1
      have : 3 ≤ numsLen h := by unfold numsLen numLen; cases h.x <;> simp <;> omega
      omega
    have hle := sizeN_le h.type h.x
    rw [hm] at HMY
    obtain ⟨n, hn⟩ : ∃ n, sizeN h.type h.x = n := ⟨_, rfl⟩
    rw [hn] at hlen h12 hle
    obtain ⟨Z, hZ⟩ : ∃ Z : Int, (n : Int) = Z := ⟨_, rfl⟩
    obtain ⟨a1, a2⟩ := tmod_lim cut Z (by omega)
    obtain ⟨k1, hk1⟩ : ∃ k, cut.tmod Z = k := ⟨_, rfl⟩
    rw [hk1] at a1 a2
    have a5 : 0 ≤ (k1 + Z).tmod Z := Int.tmod_nonneg _ (by omega)
    obtain ⟨a3, a4⟩ := tmod_lim (k1 + Z) Z (by omega)
    obtain ⟨K, hK⟩ : ∃ K : Nat, (k1 + Z).tmod Z = (K : Int) := ⟨((k1 + Z).tmod Z).toNat, by omega⟩
    have hKn : K < n := by omega
    have hsl := slice_to h.bytes K (by omega)
    have hfc := fault_cut h hm K (by omega)
    have hget := fun w => get_no (h.bytes.take K) (by rw [List.length_take]; omega) w (by rw [hfc]; decide)
    rw [hfc] at hget
    obtain ⟨bs, hbs⟩ : ∃ b, str h.bytes = b := ⟨_, rfl⟩
    obtain ⟨be, hbe⟩ : ∃ b, str (h.bytes.take K) = b := ⟨_, rfl⟩
    have hL : (bs.size : Int) = Z := by rw [← hbs, str_size, hlen, hZ]
    rw [hbs, hbe] at hsl
    rw [hbe] at hget
    rw [hbs] at HPT
    have HGT := Lib.hid hget
    have hzz : (Z == 0) = false := by rw [beq_eq_false_iff_ne]; omega
    have z1 : 12 ≤ Z ∧ Z ≤ 28 := by omega
    clear hget hbe hbs hfc hKn a3 a4 a5 hZ hn hle h12 hlen HMY
    unfold Hd.val
    go_enter Tryz.func15, Tryz.ntmps15
    go_upto_region 1 with fail
    obtain ⟨hb0, hbel0⟩ := HA.out
    clear HA
    obtain ⟨C, hC⟩ : ∃ C, C = w.heap.size := ⟨_, rfl⟩
    rw [← hC] at hb0 ⊢
    generalize w.alloc (Obj.cells #[.int .i64 h.src, .int .i64 h.dst, .int .i64 h.off, .int .i64 h.cc, .int .i64 h.cs, .int .i64 h.sum, .int .i64 h.type, .bool h.x, .int .u64 h.seq, .int .u64 h.ack, .int .u32 h.service, .int .i64 h.code, .int .u8 h.i0, .int .u8 h.i1, .int .u8 h.i2] 26) = W at *
    have HB0 := Lib.hid hb0; have HBEL := Lib.hid hbel0
    clear hb0 hbel0 hC
    go_upto_region 4 with (go_at_call 18; refine (begun_any _).mono ?_; rintro e w0 ⟨rfl, hb1⟩)
    have HB1 := Lib.hid (HB0.out.below hb1)
    have HBEL1 := Lib.hid (bel_trans HBEL.out hb1)
    clear hb1 HB0 HBEL
    go_upto_region 5 with (first
      | (refine load_blk rfl _ rfl C rfl _ HB1.out ?_)
      | (go_at_call 28; refine (HPT.out _).mono ?_; rintro e w1 ⟨rfl, hb2⟩))
    have HBEL2 := Lib.hid (bel_trans HBEL1.out hb2)
    clear hb2 HB1 HBEL1 HPT
    go_upto_region 9 with (first
      | (go_at_call 26; refine (HGT.out _).mono ?_; rintro e w2 ⟨rfl, hb3⟩)
      | (refine store_blk rfl _ _ rfl _ Hd.zero Hd.zero rfl rfl (hd_new _) ?_; intro W2 hc2 hg2))
    have hb4 := bel_trans HBEL2.out hb3
    have HW := Lib.hid ((bel_trans hb4 (bel_alloc w2 _)).grown hg2 (bel_trans hb4 (bel_alloc w2 _)).size (fun k hk => by cases hk; exact hb4.size))
    have HC := Lib.hid hc2
    have hez := eqlZ
    have hgz := fun op x y cs w => guardHd op x y Hd.zero cs w
    clear hb3 hb4 hg2 hc2 HBEL2 HGT hsl
    go_wp2_with (refine load_blk_w rfl _ rfl _ rfl _ HC.out ?_)
    go_ret
    exact ⟨rfl, HW.out⟩
  · have hm' : h.mayB = false := by simpa using hm
    have HPT := Lib.hid (fun w => put_no h w hm' q1 q2)
    rw [hm'] at HMY
    have hL : ((str []).size : Int) = 0 := rfl
    obtain ⟨bs, hbs⟩ : ∃ b, str [] = b := ⟨_, rfl⟩
    rw [hbs] at HPT hL
    clear hm hm' hbs
    unfold Hd.val
    go_enter Tryz.func15, Tryz.ntmps15
    go_upto_region 1 with fail
    obtain ⟨hb0, hbel0⟩ := HA.out
    clear HA
    obtain ⟨C, hC⟩ : ∃ C, C = w.heap.size := ⟨_, rfl⟩
    rw [← hC] at hb0 ⊢
    generalize w.alloc (Obj.cells #[.int .i64 h.src, .int .i64 h.dst, .int .i64 h.off, .int .i64 h.cc, .int .i64 h.cs, .int .i64 h.sum, .int .i64 h.type, .bool h.x, .int .u64 h.seq, .int .u64 h.ack, .int .u32 h.service, .int .i64 h.code, .int .u8 h.i0, .int .u8 h.i1, .int .u8 h.i2] 26) = W at *
    have HB0 := Lib.hid hb0; have HBEL := Lib.hid hbel0
    clear hb0 hbel0 hC
    go_upto_region 4 with (go_at_call 18; refine (begun_any _).mono ?_; rintro e w0 ⟨rfl, hb1⟩)
    have HB1 := Lib.hid (HB0.out.below hb1)
    have HBEL1 := Lib.hid (bel_trans HBEL.out hb1)
    clear hb1 HB0 HBEL
    go_upto_region 5 with (first
      | (refine load_blk rfl _ rfl C rfl _ HB1.out ?_)
      | (go_at_call 28; refine (HPT.out _).mono ?_; rintro e w1 ⟨rfl, hb2⟩))
    have HB2 := Lib.hid (HB1.out.below hb2)
    have HBEL2 := Lib.hid (bel_trans HBEL1.out hb2)
    clear hb2 HB1 HBEL1 HPT
    go_wp2_with (first
      | (refine load_blk rfl _ rfl C rfl _ HB2.out ?_)
      | (go_at_call 21; refine (HMY.out _).mono ?_; rintro e w3 ⟨rfl, hb3⟩))
    go_ret
    exact ⟨rfl, bel_trans HBEL2.out hb3⟩
end Go.Proofs.YtmekkmbldnbaiaaGreatDoor
