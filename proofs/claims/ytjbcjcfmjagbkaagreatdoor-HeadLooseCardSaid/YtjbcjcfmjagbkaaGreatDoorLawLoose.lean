/-
  The law HeadLoose, walked. (Its text is printed by tools/genloose.py.)
-/
import Derived.Test.YtjbcjcfmjagbkaaGreatDoorLawHead2
import Derived.Test.YtjbcjcfmjagbkaaGreatDoorLawSum3
import Derived.Test.YtjbcjcfmjagbkaaGreatDoorLooseMath
import Derived.Test.YtjbcjcfmjagbkaaGreatDoorRegB
namespace Go.Proofs.YtjbcjcfmjagbkaaGreatDoor
open Go.ChangeShapes Go.WideShapes Go.ChangeAt Go.RowKit
set_option linter.unusedVariables false
set_option linter.unusedSimpArgs false

/-- '[]byte(s)' in a region. -/
theorem wp_conv {ops : Array Oper} {rest : List Oper} {o : Oper} {a : Act} {Q : Exit → Act → World → Prop} (hgd : o.guard = none) (x : Operand) (ho : o.op = .convert 9 36 x)
    (w : World) (s : ByteArray) (l : List UInt8) (hx : a.eval x = .string s) (hs : s = str l)
    (h : ∀ w' H cap, H = w.heap.size → Below w.heap.size w w' → BRow w' H l → wpList Tryz.prog ops Q rest (a.put o.dst (.slice (some ⟨H, 0, none⟩) l.length cap)) w') : wpList Tryz.prog ops Q (o :: rest) a w :=
  wpList_plain hgd fun _ hK => by
    subst hs
    obtain ⟨cap, ob, hcv, hrow⟩ := conv_row w l
    unfold Oper.wp execOp
    simp only [ho, hx, hcv, Sem.run_bind, Result.andThen_ok]
    exact hK _ _ (h _ _ cap rfl (bel_trans (bel_drewN w 1) (bel_alloc _ _)) hrow)
/-- The row of a head's bytes, the head itself beside it. -/
def LooseSt (w : World) (C : Nat) (h : Hd) (l : List UInt8) (v : Value) (wx : World) : Prop := ∃ g cap, v = .slice (some ⟨g, 0, none⟩) l.length cap ∧ BRow wx g l ∧ w.heap.size ≤ g ∧ C < g ∧ HdBlk h C wx ∧ Below w.heap.size w wx
/-- What each operation of the region leaves. -/
def lsK (h2 : Hd) (bs bz bq : ByteArray) (l : List UInt8) (B : Nat) : Nat → Value → World → Prop
  | 0, v, _ => v = h2.val
  | 1, v, _ => v = .string bs
  | 2, v, w => ∃ H, v = .slice (some ⟨H, 0, none⟩) 1020 1020 ∧ Rg.ZRow w H 1020
  | 3, v, _ => v = .string bz
  | 4, v, _ => v = .string bq
  | _, v, w => ∃ g cap, v = .slice (some ⟨g, 0, none⟩) l.length cap ∧ BRow w g l ∧ B ≤ g
theorem lsK_keep (h2 : Hd) (bs bz bq : ByteArray) (l : List UInt8) (B : Nat) : ∀ i v x y, lsK h2 bs bz bq l B i v x → Below x.heap.size x y → lsK h2 bs bz bq l B i v y
  | 0, _, _, _, h, _ => h
  | 1, _, _, _, h, _ => h
  | 2, _, _, _, ⟨H, e, hz⟩, hb => ⟨H, e, hz.below hb⟩
  | 3, _, _, _, h, _ => h
  | 4, _, _, _, h, _ => h
  | _ + 5, _, _, _, ⟨g, c, e, hr, hg⟩, hb => ⟨g, c, e, hr.same (hb.block g hr.lt), hg⟩
theorem not_bits : ∀ j : Fin 256, bits .xor .u8 (if IntKind.u8.signed = true then -1 else IntKind.u8.max) (j.val : Int) = ((255 - j.val : Nat) : Int) := by decide +kernel
structure LsFr (C : Nat) (j : Nat) (a : Act) : Prop where
  size : a.tmps.size = 70
  defers : a.defers = []
  e1 : a.eval (.tmp 1) = .int .u8 (j : Int)
  e2 : a.eval (.tmp 2) = .pointer (some ⟨C, 0, none⟩)
theorem ex_put (ρ : Operand → Value) (w : World) (o : Oper) (x : Operand) (v : Value) (ats : Array TypeId) (ho : o.op = .call { callee := .value (.func 27), args := #[x], argTypes := ats }) (hx : ρ x = v) (hfv : ρ (.func 27) = .func (.func 27) #[] #[]) :
    (execOp ρ o).run Tryz.prog w = .ok (.enter 27 #[v]) w := by
  unfold execOp
  rw [ho]
  simp [go_sem, resolve, hx, hfv]
theorem bel_row {w w' : World} {g : Nat} {l : List UInt8} (h : BRow w g l) (hb : Below w.heap.size w w') : BRow w' g l := h.same (hb.block g h.lt)

set_option maxHeartbeats 4000000 in
set_option maxRecDepth 100000 in
theorem headLoose_no (h : Hd) (hok : h.ok) (j : Nat) (hj : j < 256) (hm : ({ h with off := 255 } : Hd).mayB = false) (w : World) :
    Calls Tryz.prog 10 #[h.val, .int .u8 j] w fun e w' => e = .returned (.bool true) ∧ Below w.heap.size w w' := by
  obtain ⟨h2, hh2⟩ : ∃ h2, ({ h with off := 255 } : Hd) = h2 := ⟨_, rfl⟩
  obtain ⟨q1, q2, q3, q4, q5, q6⟩ := hok
  have HPT := Lib.hid (fun w => put_no h2 w (by rw [← hh2]; exact hm) (by rw [← hh2]; exact q1) (by rw [← hh2]; exact q2))
  rw [hh2] at hm
  have HMY := Lib.hid (fun w => refMay_any h2 w)
  rw [hm] at HMY
  have HH2 := Lib.hid hh2
  have HST := Lib.hid (show str [] = ⟨#[]⟩ from rfl)
  rw [HST.out] at HPT
  clear hm hh2 q1 q2 q3 q4 q5 q6
  have hz : h.box = Obj.cells #[.int .i64 h.src, .int .i64 h.dst, .int .i64 h.off, .int .i64 h.cc, .int .i64 h.cs, .int .i64 h.sum, .int .i64 h.type, .bool h.x, .int .u64 h.seq, .int .u64 h.ack, .int .u32 h.service, .int .i64 h.code, .int .u8 h.i0, .int .u8 h.i1, .int .u8 h.i2] 26 := rfl
  have HA : Hid (HdBlk h w.heap.size (w.alloc h.box) ∧ Below w.heap.size w (w.alloc h.box)) := Lib.hid ⟨heap_alloc_new w _, bel_alloc _ _⟩
  rw [hz] at HA
  clear hz
  unfold Hd.val
  go_enter Tryz.func10, Tryz.ntmps10
  go_upto_region 1 with fail
  obtain ⟨hb0, hbel0⟩ := HA.out
  clear HA
  obtain ⟨C, hC⟩ : ∃ C, C = w.heap.size := ⟨_, rfl⟩
  have hCw : w.heap.size ≤ C := Nat.le_of_eq hC.symm
  rw [← hC] at hb0 ⊢
  generalize w.alloc (Obj.cells #[.int .i64 h.src, .int .i64 h.dst, .int .i64 h.off, .int .i64 h.cc, .int .i64 h.cs, .int .i64 h.sum, .int .i64 h.type, .bool h.x, .int .u64 h.seq, .int .u64 h.ack, .int .u32 h.service, .int .i64 h.code, .int .u8 h.i0, .int .u8 h.i1, .int .u8 h.i2] 26) = W at *
  have HB0 := Lib.hid hb0; have HBEL := Lib.hid hbel0
  clear hb0 hbel0 hC
  go_upto_region 4 with (go_at_call 17; refine (begun_any _).mono ?_; rintro e w0 ⟨rfl, hb1⟩)
  have hb2 := HB0.out.below hb1
  have HBEL1 := Lib.hid (bel_trans HBEL.out hb1)
  have c2 := hb2.at_.2.2.1
  have f2 := hb2.free 2
  have hb3 := hb2.set h2 2 (.int .i64 255) (by rw [← HH2.out]; rfl)
  have hbel3 := HBEL1.out.setCell (p := ⟨C, 2, none⟩) hCw (.int .i64 255)
  have HB3 := Lib.hid hb3; have HBEL3 := Lib.hid hbel3
  clear hb1 hb2 hb3 hbel3 HB0 HBEL HBEL1
  go_upto_region 5 with fail
  clear c2 f2
  generalize w0.setCell ⟨C, 2, none⟩ (.int .i64 255) = W3 at *
  go_upto_region 6 with (first
    | (refine load_blk rfl _ rfl C rfl _ HB3.out ?_)
    | (go_at_call 20; refine (HMY.out _).mono ?_; rintro e w1 ⟨rfl, hb4⟩))
  have HB4 := Lib.hid (HB3.out.below hb4)
  have HBEL4 := Lib.hid (bel_trans HBEL3.out hb4)
  clear hb4 HB3 HBEL3
  go_wp2_with (first
    | (refine load_blk rfl _ rfl C rfl _ HB4.out ?_)
    | (go_at_call 27; refine (HPT.out _).mono ?_; rintro e w2 ⟨rfl, hb5⟩))
  go_ret
  exact ⟨rfl, bel_trans HBEL4.out hb5⟩

/-- What is read of such bytes. -/
theorem loose_end (h2 : Hd) (l : List UInt8) (hl : l.length ≤ 2000) (hg : getHd l = h2) (hf : faultN l = 0) (w : World) :
    Calls Tryz.prog 25 #[.string (str l)] w fun e w' => e = .returned (.tuple #[h2.val, .int .i64 0]) ∧ Below w.heap.size w w' := by
  have h := get_yes l (by omega) w hf
  rw [hg] at h
  exact h
set_option maxHeartbeats 8000000 in
set_option maxRecDepth 100000 in
theorem headLoose_xk (h : Hd) (hok : h.ok) (j : Nat) (hj : j < 256) (hm : ({ h with off := 255 } : Hd).mayB = true) (hX : h.x = true) (hK : hasAckB h.type = true) (w : World) :
    Calls Tryz.prog 10 #[h.val, .int .u8 j] w fun e w' => e = .returned (.bool true) ∧ Below w.heap.size w w' := by
  obtain ⟨h2, hh2⟩ : ∃ h2, ({ h with off := 255 } : Hd) = h2 := ⟨_, rfl⟩
  have ok2 : h2.ok := by rw [← hh2]; exact ⟨hok.seq, hok.ack, hok.service, hok.i0, hok.i1, hok.i2⟩
  have hX2 : h2.x = true := by rw [← hh2]; exact hX
  have hK2 : hasAckB h2.type = true := by rw [← hh2]; exact hK
  have ho2 : h2.off = 255 := by rw [← hh2]
  rw [hh2] at hm
  have hty : 0 ≤ h2.type ∧ h2.type ≤ 9 := by
    obtain ⟨_, _, _, _, _, _, ⟨t1, t2⟩, _⟩ := mayB_bounds hm
    exact ⟨t1, t2⟩
  obtain ⟨q1, q2, q3, q4, q5, q6⟩ := ok2
  have HPT := Lib.hid (fun w => put_yes h2 w hm q1 q2 q3 q4 q5 q6)
  have HMY := Lib.hid (fun w => refMay_any h2 w)
  rw [hm] at HMY
  have HHA := Lib.hid (fun w => hasAck_any h2.type w)
  rw [hK2] at HHA
  have HH2 := Lib.hid hh2
  -- the bytes
  have hlen : h2.bytes.length = sizeN h2.type h2.x := bytes_len hm
  have h12 : 12 ≤ sizeN h2.type h2.x := by
    have := (mayB_more hm).1
    have := sizeN_four h2.type h2.x
    have := size_parts (mayB_more hm).1
    have : 3 ≤ numsLen h2 := by unfold numsLen numLen; cases h2.x <;> simp <;> omega
    omega
  have hle := sizeN_le h2.type h2.x
  have ht8 : typeN h2.type.toNat h2.x < 20 := by have := typeN_le h2.type.toNat h2.x (by omega); omega
  have hb8 : ((h2.bytes ++ List.replicate 1020 0).getD 8 0).toNat = typeN h2.type.toNat h2.x := by
    have e := (nine_at h2 hm (h2.seqBytes ++ (h2.ackBytes ++ h2.extraBytes) ++ List.replicate 1020 0)).2
    rw [show h2.nine ++ (h2.seqBytes ++ (h2.ackBytes ++ h2.extraBytes) ++ List.replicate 1020 0) = h2.bytes ++ List.replicate 1020 0 by rw [bytes_nine]; simp only [List.append_assoc]] at e
    exact e
  obtain ⟨lb1, lb2⟩ := loose_bits ⟨typeN h2.type.toNat h2.x, ht8⟩ ⟨j, hj⟩
  dsimp only at lb1 lb2
  obtain ⟨V, hV⟩ : ∃ V, typeN h2.type.toNat h2.x + j / 32 * 32 = V := ⟨_, rfl⟩
  rw [hV] at lb1 lb2
  have hVb : (UInt8.ofNat V).toNat = V := by rw [UInt8.toNat_ofNat', Nat.mod_eq_of_lt (by omega)]
  have hjb : (UInt8.ofNat j).toNat = j := by rw [UInt8.toNat_ofNat', Nat.mod_eq_of_lt (by omega)]
  obtain ⟨k, hk⟩ : ∃ k : Nat, k = 255 - j := ⟨_, rfl⟩
  have hkb : (UInt8.ofNat k).toNat = k := by rw [UInt8.toNat_ofNat', Nat.mod_eq_of_lt (by omega)]
  have hv1 : V / 2 % 16 = h2.type.toNat ∧ V % 2 = if h2.x = true then 1 else 0 := by
    rw [← hV]; unfold typeN; cases h2.x <;> simp <;> omega
  have hend := loose_get h2 ⟨q1, q2, q3, q4, q5, q6⟩ hm ho2 (UInt8.ofNat V) (UInt8.ofNat j) (UInt8.ofNat k) (by rw [hVb]; exact hv1.1) (by rw [hVb]; exact hv1.2)
  rw [hX2, hK2] at hend
  unfold looseA looseB at hend
  simp only [if_true, Bool.false_eq_true, if_false] at hend
  obtain ⟨l, hl⟩ : ∃ l, h2.bytes ++ List.replicate 1020 0 = l := ⟨_, rfl⟩
  have hll : l.length ≤ 1100 ∧ 1000 < l.length := by rw [← hl, List.length_append, List.length_replicate]; omega
  rw [hl] at hend hb8
  have HEND := Lib.hid (fun w => loose_end h2 ((((l.set 8 (UInt8.ofNat V)).set 9 (UInt8.ofNat j)).set 16 (UInt8.ofNat j)).set 17 (UInt8.ofNat k)) (by simp; omega) hend.1 hend.2 w)
  have HCV : Hid (∀ (W : World) (g cap : Nat), BRow W g ((((l.set 8 (UInt8.ofNat V)).set 9 (UInt8.ofNat j)).set 16 (UInt8.ofNat j)).set 17 (UInt8.ofNat k)) → (convert 36 9 (.slice (some ⟨g, 0, none⟩) l.length cap)).run Tryz.prog W = .ok (.string (str ((((l.set 8 (UInt8.ofNat V)).set 9 (UInt8.ofNat j)).set 16 (UInt8.ofNat j)).set 17 (UInt8.ofNat k)))) W) := Lib.hid (fun W g cap h => by have e := h.conv cap; simpa using e)
  obtain ⟨fs, hfs⟩ : ∃ fs, str ((((l.set 8 (UInt8.ofNat V)).set 9 (UInt8.ofNat j)).set 16 (UInt8.ofNat j)).set 17 (UInt8.ofNat k)) = fs := ⟨_, rfl⟩
  rw [hfs] at HEND HCV
  have HBA : Hid (∀ (W : World) (g : Nat) (h : BRow W g l), W.cell? ⟨g, 8, none⟩ = some (.int .u8 (typeN h2.type.toNat h2.x : Nat)) ∧ W.frozen? ⟨g, 8, none⟩ = false) := Lib.hid (fun W g h => h.at 8 _ (by omega) hb8)
  have HBV : Hid (∀ (W : World) (g : Nat) (h : BRow W g l), BRow (W.setCell ⟨g, 8, none⟩ (.int .u8 (V : Int))) g (l.set 8 (UInt8.ofNat V))) := Lib.hid (fun W g h => h.set 8 (UInt8.ofNat V) (V : Int) (by rw [hVb]))
  have H9A : Hid (∀ (W : World) (g : Nat) (h : BRow W g (l.set 8 (UInt8.ofNat V))), ∃ z : Value, W.cell? ⟨g, 9, none⟩ = some z ∧ W.frozen? ⟨g, 9, none⟩ = false) := Lib.hid (fun W g h => ⟨_, (h.at 9 _ (by simp; omega) rfl).1, (h.at 9 _ (by simp; omega) rfl).2⟩)
  have H9V : Hid (∀ (W : World) (g : Nat) (h : BRow W g (l.set 8 (UInt8.ofNat V))), BRow (W.setCell ⟨g, 9, none⟩ (.int .u8 (j : Int))) g ((l.set 8 (UInt8.ofNat V)).set 9 (UInt8.ofNat j))) := Lib.hid (fun W g h => h.set 9 (UInt8.ofNat j) (j : Int) (by rw [hjb]))
  have H16A : Hid (∀ (W : World) (g : Nat) (h : BRow W g ((l.set 8 (UInt8.ofNat V)).set 9 (UInt8.ofNat j))), ∃ z : Value, W.cell? ⟨g, 16, none⟩ = some z ∧ W.frozen? ⟨g, 16, none⟩ = false) := Lib.hid (fun W g h => ⟨_, (h.at 16 _ (by simp; omega) rfl).1, (h.at 16 _ (by simp; omega) rfl).2⟩)
  have H16V : Hid (∀ (W : World) (g : Nat) (h : BRow W g ((l.set 8 (UInt8.ofNat V)).set 9 (UInt8.ofNat j))), BRow (W.setCell ⟨g, 16, none⟩ (.int .u8 (j : Int))) g (((l.set 8 (UInt8.ofNat V)).set 9 (UInt8.ofNat j)).set 16 (UInt8.ofNat j))) := Lib.hid (fun W g h => h.set 16 (UInt8.ofNat j) (j : Int) (by rw [hjb]))
  have H17A : Hid (∀ (W : World) (g : Nat) (h : BRow W g (((l.set 8 (UInt8.ofNat V)).set 9 (UInt8.ofNat j)).set 16 (UInt8.ofNat j))), ∃ z : Value, W.cell? ⟨g, 17, none⟩ = some z ∧ W.frozen? ⟨g, 17, none⟩ = false) := Lib.hid (fun W g h => ⟨_, (h.at 17 _ (by simp; omega) rfl).1, (h.at 17 _ (by simp; omega) rfl).2⟩)
  have H17V : Hid (∀ (W : World) (g : Nat) (h : BRow W g (((l.set 8 (UInt8.ofNat V)).set 9 (UInt8.ofNat j)).set 16 (UInt8.ofNat j))), BRow (W.setCell ⟨g, 17, none⟩ (.int .u8 (k : Int))) g ((((l.set 8 (UInt8.ofNat V)).set 9 (UInt8.ofNat j)).set 16 (UInt8.ofNat j)).set 17 (UInt8.ofNat k))) := Lib.hid (fun W g h => h.set 17 (UInt8.ofNat k) (k : Int) (by rw [hkb]))
  have HXR : Hid (bits .xor .u8 (if IntKind.u8.signed = true then -1 else IntKind.u8.max) (j : Int) = (k : Int)) := Lib.hid (by rw [hk]; exact not_bits ⟨j, hj⟩)
  obtain ⟨bs, hbs⟩ : ∃ b, str h2.bytes = b := ⟨_, rfl⟩
  obtain ⟨bz, hbz⟩ : ∃ b, str (List.replicate 1020 (0 : UInt8)) = b := ⟨_, rfl⟩
  obtain ⟨bq, hbq⟩ : ∃ b, str l = b := ⟨_, rfl⟩
  have hcat : bs ++ bz = bq := by rw [← hbs, ← hbz, ← hbq, ← hl, str_append]
  have hzz : ¬ 9223372036854775807 < bs.size + bz.size := by rw [← hbs, ← hbz, str_size, str_size, List.length_replicate]; omega
  rw [hbs] at HPT
  have HADD : Hid (∀ W, (binOp .add 9 (.string bs) (.string bz)).run Tryz.prog W = .ok (.string bq) W) := Lib.hid (fun W => by rw [← hcat]; go_simp)
  have HBZ := Lib.hid hbz; have HBQ := Lib.hid hbq.symm
  generalize typeN h2.type.toNat h2.x = T8 at *
  have HX2 := Lib.hid hX2; have HTY := Lib.hid hty
  have hne : bs.toList.isEmpty = bs.toList.isEmpty := rfl
  obtain ⟨N, hN⟩ : ∃ N, l.length = N := ⟨_, rfl⟩
  rw [hN] at HCV hll
  have HN := Lib.hid hN
  clear hm hh2 q1 q2 q3 q4 q5 q6 hX hK hK2 hX2 ho2 hlen h12 hle ht8 hb8 hV hVb hjb hkb hk hv1 hend hfs hbs hbz hbq hl hty hne hok hN
  have hz : h.box = Obj.cells #[.int .i64 h.src, .int .i64 h.dst, .int .i64 h.off, .int .i64 h.cc, .int .i64 h.cs, .int .i64 h.sum, .int .i64 h.type, .bool h.x, .int .u64 h.seq, .int .u64 h.ack, .int .u32 h.service, .int .i64 h.code, .int .u8 h.i0, .int .u8 h.i1, .int .u8 h.i2] 26 := rfl
  have HA : Hid (HdBlk h w.heap.size (w.alloc h.box) ∧ Below w.heap.size w (w.alloc h.box)) := Lib.hid ⟨heap_alloc_new w _, bel_alloc _ _⟩
  rw [hz] at HA
  clear hz
  unfold Hd.val
  go_enter Tryz.func10, Tryz.ntmps10
  go_upto_region 1 with fail
  obtain ⟨hb0, hbel0⟩ := HA.out
  clear HA
  obtain ⟨C, hC⟩ : ∃ C, C = w.heap.size := ⟨_, rfl⟩
  have hCw : w.heap.size ≤ C := Nat.le_of_eq hC.symm
  rw [← hC] at hb0 ⊢
  generalize w.alloc (Obj.cells #[.int .i64 h.src, .int .i64 h.dst, .int .i64 h.off, .int .i64 h.cc, .int .i64 h.cs, .int .i64 h.sum, .int .i64 h.type, .bool h.x, .int .u64 h.seq, .int .u64 h.ack, .int .u32 h.service, .int .i64 h.code, .int .u8 h.i0, .int .u8 h.i1, .int .u8 h.i2] 26) = W at *
  have HB0 := Lib.hid hb0; have HBEL := Lib.hid hbel0
  clear hb0 hbel0 hC
  go_upto_region 4 with (go_at_call 17; refine (begun_any _).mono ?_; rintro e w0 ⟨rfl, hb1⟩)
  have hb2 := HB0.out.below hb1
  have HBEL1 := Lib.hid (bel_trans HBEL.out hb1)
  have c2 := hb2.at_.2.2.1
  have f2 := hb2.free 2
  have hb3 := hb2.set h2 2 (.int .i64 255) (by rw [← HH2.out]; rfl)
  have hbel3 := HBEL1.out.setCell (p := ⟨C, 2, none⟩) hCw (.int .i64 255)
  have HB3 := Lib.hid hb3; have HBEL3 := Lib.hid hbel3
  clear hb1 hb2 hb3 hbel3 HB0 HBEL HBEL1
  go_upto_region 5 with fail
  clear c2 f2
  generalize w0.setCell ⟨C, 2, none⟩ (.int .i64 255) = W3 at *
  go_upto_region 7 with (first
    | (refine load_blk rfl _ rfl C rfl _ HB3.out ?_)
    | (go_at_call 20; refine (HMY.out _).mono ?_; rintro e w1 ⟨rfl, hb4⟩))
  have HB4 := Lib.hid (HB3.out.below hb4)
  have HBEL4 := Lib.hid (bel_trans HBEL3.out hb4)
  clear hb4 HB3 HBEL3 HMY
  refine wp_cut (fun a' w' => LsFr C j a' ∧ LooseSt w C h2 l (a'.eval (.tmp 6)) w') ?rest ?first
  case first =>
    intro J K' hJ hK
    refine Rg.region (by kernel_rfl) [19, 20, 21, 22, 23, 24, 6] (lsK h2 bs bz bq l (C + 1)) (fun x y => Below x.heap.size x y) (by kernel_rfl) (Below.refl _ _) (fun _ _ _ h k => bel_trans h k) (lsK_keep h2 bs bz bq l (C + 1)) ⟨?_, ?_, ?_, ?_, ?_, ?_, ?_, trivial⟩ ?_
    · intro a W hsl hs hd K1 hk
      exact wp_load_row 26 _ rfl C ((hsl 2 (by decide)).trans rfl) 26 h2.cellsA (0, 0) _ ((HB4.out.drew).below hs) Tryz.underlying26 rfl infoHd (hk _ W (Below.refl _ _) (fun u hu => hu rfl))
    · intro a W hsl hs hd K1 hk
      have e0 : a.eval (.tmp 19) = h2.val := hd ⟨0, .data⟩ (by simp) rfl
      refine Rg.call hk rfl (ex_put _ _ _ _ _ _ rfl e0 rfl) ((HPT.out _).mono ?_)
      rintro e w5 ⟨rfl, hb5⟩
      exact ⟨_, rfl, hb5, rfl⟩
    · intro a W hsl hs hd K1 hk
      obtain ⟨w6, hr6, hb6, hz6⟩ := Rg.make_zeros W 1020 (by omega)
      exact Rg.val hk rfl (Rg.ex_make _ _ _ _ _ _ 1020 1020 _ _ rfl rfl rfl hr6) hb6 ⟨_, rfl, hz6 (by omega)⟩
    · intro a W hsl hs hd K1 hk
      obtain ⟨H, e0, hz0⟩ : ∃ H, a.eval (.tmp 21) = .slice (some ⟨H, 0, none⟩) 1020 1020 ∧ Rg.ZRow W H 1020 := hd ⟨2, .data⟩ (by simp) rfl
      exact Rg.val hk rfl (Rg.ex_slice _ _ _ _ _ _ _ _ _ _ _ rfl e0 hz0.conv) (Below.refl _ _) (by show Value.string _ = Value.string bz; rw [HBZ.out])
    · intro a W hsl hs hd K1 hk
      have e0 : a.eval (.tmp 20) = .string bs := hd ⟨1, .data⟩ (by simp) rfl
      have e1 : a.eval (.tmp 22) = .string bz := hd ⟨3, .data⟩ (by simp) rfl
      exact Rg.val hk rfl (Rg.ex_bin _ _ _ _ _ _ _ _ _ _ _ rfl e0 e1 rfl (HADD.out W)) (Below.refl _ _) rfl
    · intro a W hsl hs hd K1 hk
      have e0 : a.eval (.tmp 23) = .string bq := hd ⟨4, .data⟩ (by simp) rfl
      obtain ⟨cap, ob, hcv, hrow⟩ := conv_row W l
      rw [← HBQ.out] at hcv
      have hb7 : Below W.heap.size W (W.drew.alloc ob) := bel_trans (bel_drewN W 1) (bel_alloc _ _)
      have hg7 : C + 1 ≤ W.heap.size := ((HB4.out.drew).below hs).lt
      exact Rg.val hk rfl (Rg.ex_string _ _ _ _ _ _ _ _ _ rfl e0 hcv) hb7 ⟨_, _, rfl, hrow, hg7⟩
    · intro a W hsl hs hd K1 hk
      have e0 : lsK h2 bs bz bq l (C + 1) 5 (a.eval (.tmp 24)) W := hd ⟨5, .data⟩ (by simp) rfl
      exact Rg.val hk rfl (Rg.ex_assign _ _ _ _ _ rfl rfl) (Below.refl _ _) e0
    · intro a W hsz hdf hsl hs hk
      obtain ⟨g, cap, e6, hrow, hgw⟩ : ∃ g cap, a.eval (.tmp 6) = .slice (some ⟨g, 0, none⟩) l.length cap ∧ BRow W g l ∧ C + 1 ≤ g := hk 6 (by decide)
      refine hK _ _ (Met.intro (hJ _ _ ⟨⟨hsz.trans rfl, hdf.trans rfl, (hsl 1 (by decide)).trans rfl, (hsl 2 (by decide)).trans rfl⟩, g, cap, e6, hrow, by omega, hgw, (HB4.out.drew).below hs, bel_trans HBEL4.out.drew hs⟩))
  intro a2 W7 hh
  obtain ⟨⟨hsz, hdf, e1, e2⟩, g, cap, e6, hrow, hgw, hCg, hC7, hb7⟩ := hh
  obtain ⟨f, hf⟩ : ∃ f : Nat → Value, f = fun i => a2.eval (.tmp i) := ⟨_, rfl⟩
  have e1 : f 1 = .int .u8 (j : Int) := by rw [hf]; exact e1
  have e2 : f 2 = .pointer (some ⟨C, 0, none⟩) := by rw [hf]; exact e2
  have e6 : f 6 = .slice (some ⟨g, 0, none⟩) N cap := by rw [hf, ← HN.out]; exact e6
  have hl : a2 = ⟨((List.range 70).map f).toArray, []⟩ := by rw [hf]; exact Fr.lit a2 70 hsz hdf
  rw [show (List.range 70).map f = [f 0, f 1, f 2, f 3, f 4, f 5, f 6, f 7, f 8, f 9, f 10, f 11, f 12, f 13, f 14, f 15, f 16, f 17, f 18, f 19, f 20, f 21, f 22, f 23, f 24, f 25, f 26, f 27, f 28, f 29, f 30, f 31, f 32, f 33, f 34, f 35, f 36, f 37, f 38, f 39, f 40, f 41, f 42, f 43, f 44, f 45, f 46, f 47, f 48, f 49, f 50, f 51, f 52, f 53, f 54, f 55, f 56, f 57, f 58, f 59, f 60, f 61, f 62, f 63, f 64, f 65, f 66, f 67, f 68, f 69] from rfl, e1, e2, e6] at hl
  rw [hl]
  clear hl e1 e2 e6 hf hsz hdf HB4 HBEL4 HPT HADD HBZ HBQ
  have hgC : g ≠ C := by omega
  have hN9 : 17 < N := by omega
  obtain ⟨c8, f8⟩ := HBA.out W7 g hrow
  have hr8 := HBV.out W7 g hrow
  have hc8 := hC7.other (grown_set W7 g 8 (.int .u8 (V : Int))) (by simpa using hgC.symm)
  have hb8 := hb7.setCell (p := ⟨g, 8, none⟩) hgw (.int .u8 (V : Int))
  have HR8 := Lib.hid hr8; have HC8 := Lib.hid hc8; have HB8 := Lib.hid hb8
  clear hr8 hc8 hb8 hrow hC7 hb7
  go_upto_region 9 with fail
  clear c8 f8 lb1
  generalize W7.setCell ⟨g, 8, none⟩ (.int .u8 (V : Int)) = W8 at *
  have c7 := HC8.out.at_.2.2.2.2.2.2.2.1
  rw [HX2.out] at c7
  go_upto_region 10 with fail
  obtain ⟨z9, k9, l9⟩ := H9A.out W8 g HR8.out
  have hr9 := H9V.out W8 g HR8.out
  have hc9 := HC8.out.other (grown_set W8 g 9 (.int .u8 (j : Int))) (by simpa using hgC.symm)
  have hb9 := HB8.out.setCell (p := ⟨g, 9, none⟩) hgw (.int .u8 (j : Int))
  have HR9 := Lib.hid hr9; have HC9 := Lib.hid hc9; have HB9 := Lib.hid hb9
  clear hr9 hc9 hb9
  go_upto_region 11 with (go_at_call 21; refine (HHA.out _).mono ?_; rintro e w9 ⟨rfl, rfl⟩)
  clear k9 l9 HR8 HC8 HB8
  generalize W8.setCell ⟨g, 9, none⟩ (.int .u8 (j : Int)) = W9 at *
  clear c7
  have c6 := HC9.out.at_.2.2.2.2.2.2.1
  have c7 := HC9.out.at_.2.2.2.2.2.2.2.1
  rw [HX2.out] at c7
  go_upto_region 12 with (go_at_call 21; refine (HHA.out _).mono ?_; rintro e w9 ⟨rfl, rfl⟩)
  clear c6 c7
  obtain ⟨z16, k16, l16⟩ := H16A.out W9 g HR9.out
  have hr16 := H16V.out W9 g HR9.out
  have hc16 := HC9.out.other (grown_set W9 g 16 (.int .u8 (j : Int))) (by simpa using hgC.symm)
  have hb16 := HB9.out.setCell (p := ⟨g, 16, none⟩) hgw (.int .u8 (j : Int))
  obtain ⟨z17, k17, l17⟩ := H17A.out _ g hr16
  have hr17 := H17V.out _ g hr16
  have hc17 := hc16.other (grown_set _ g 17 (.int .u8 (k : Int))) (by simpa using hgC.symm)
  have hb17 := hb16.setCell (p := ⟨g, 17, none⟩) hgw (.int .u8 (k : Int))
  have HR17 := Lib.hid hr17; have HC17 := Lib.hid hc17; have HB17 := Lib.hid hb17
  clear hr17 hc17 hb17 hr16 hc16 hb16 HR9 HC9 HB9
  go_upto_region 15 with fail
  rw [HXR.out]
  clear k16 l16 k17 l17 HXR
  generalize (W9.setCell ⟨g, 16, none⟩ (.int .u8 (j : Int))).setCell ⟨g, 17, none⟩ (.int .u8 (k : Int)) = W17 at *
  have hcv := HCV.out W17 g cap HR17.out
  go_upto_region 16 with (first
    | (go_at_call 25; refine (HEND.out _).mono ?_; rintro e w15 ⟨rfl, hb15⟩)
    | (refine store_blk rfl _ _ rfl _ Hd.zero h2 rfl rfl (hd_new _) ?_; intro W16 hc16e hg16))
  have hb15a := bel_trans HB17.out hb15
  have hlt : C < w15.heap.size := (HC17.out.below hb15).lt
  have hC16 := ((HC17.out.below hb15).below (bel_alloc w15 _)).other hg16 (by simp; omega)
  have HW := Lib.hid ((bel_trans hb15a (bel_alloc w15 _)).grown hg16 (bel_trans hb15a (bel_alloc w15 _)).size (fun k hk => by cases hk; exact hb15a.size))
  have HCa := Lib.hid hc16e; have HCb := Lib.hid hC16
  clear hcv hb15 hb15a hlt hC16 hc16e hg16 HR17 HC17 HB17
  have hez : ∀ w : World, (binOp .eql 26 h2.val h2.val).run Tryz.prog w = .ok (.bool true) w := fun w => by
    have := eqlHd h2 h2 w
    rw [(Hd.eqB_iff h2 h2).2 rfl] at this
    exact this
  have hgz := fun op x y w => guardHd2 op x y h2 h2 w
  go_wp2_with (first
    | (refine load_blk_w rfl _ rfl _ rfl _ HCa.out ?_)
    | (refine load_blk_w rfl _ rfl C rfl _ HCb.out ?_))
  go_ret
  exact ⟨rfl, HW.out⟩

set_option maxHeartbeats 8000000 in
set_option maxRecDepth 100000 in
theorem headLoose_xn (h : Hd) (hok : h.ok) (j : Nat) (hj : j < 256) (hm : ({ h with off := 255 } : Hd).mayB = true) (hX : h.x = true) (hK : hasAckB h.type = false) (w : World) :
    Calls Tryz.prog 10 #[h.val, .int .u8 j] w fun e w' => e = .returned (.bool true) ∧ Below w.heap.size w w' := by
  obtain ⟨h2, hh2⟩ : ∃ h2, ({ h with off := 255 } : Hd) = h2 := ⟨_, rfl⟩
  have ok2 : h2.ok := by rw [← hh2]; exact ⟨hok.seq, hok.ack, hok.service, hok.i0, hok.i1, hok.i2⟩
  have hX2 : h2.x = true := by rw [← hh2]; exact hX
  have hK2 : hasAckB h2.type = false := by rw [← hh2]; exact hK
  have ho2 : h2.off = 255 := by rw [← hh2]
  rw [hh2] at hm
  have hty : 0 ≤ h2.type ∧ h2.type ≤ 9 := by
    obtain ⟨_, _, _, _, _, _, ⟨t1, t2⟩, _⟩ := mayB_bounds hm
    exact ⟨t1, t2⟩
  obtain ⟨q1, q2, q3, q4, q5, q6⟩ := ok2
  have HPT := Lib.hid (fun w => put_yes h2 w hm q1 q2 q3 q4 q5 q6)
  have HMY := Lib.hid (fun w => refMay_any h2 w)
  rw [hm] at HMY
  have HHA := Lib.hid (fun w => hasAck_any h2.type w)
  rw [hK2] at HHA
  have HH2 := Lib.hid hh2
  -- the bytes
  have hlen : h2.bytes.length = sizeN h2.type h2.x := bytes_len hm
  have h12 : 12 ≤ sizeN h2.type h2.x := by
    have := (mayB_more hm).1
    have := sizeN_four h2.type h2.x
    have := size_parts (mayB_more hm).1
    have : 3 ≤ numsLen h2 := by unfold numsLen numLen; cases h2.x <;> simp <;> omega
    omega
  have hle := sizeN_le h2.type h2.x
  have ht8 : typeN h2.type.toNat h2.x < 20 := by have := typeN_le h2.type.toNat h2.x (by omega); omega
  have hb8 : ((h2.bytes ++ List.replicate 1020 0).getD 8 0).toNat = typeN h2.type.toNat h2.x := by
    have e := (nine_at h2 hm (h2.seqBytes ++ (h2.ackBytes ++ h2.extraBytes) ++ List.replicate 1020 0)).2
    rw [show h2.nine ++ (h2.seqBytes ++ (h2.ackBytes ++ h2.extraBytes) ++ List.replicate 1020 0) = h2.bytes ++ List.replicate 1020 0 by rw [bytes_nine]; simp only [List.append_assoc]] at e
    exact e
  obtain ⟨lb1, lb2⟩ := loose_bits ⟨typeN h2.type.toNat h2.x, ht8⟩ ⟨j, hj⟩
  dsimp only at lb1 lb2
  obtain ⟨V, hV⟩ : ∃ V, typeN h2.type.toNat h2.x + j / 32 * 32 = V := ⟨_, rfl⟩
  rw [hV] at lb1 lb2
  have hVb : (UInt8.ofNat V).toNat = V := by rw [UInt8.toNat_ofNat', Nat.mod_eq_of_lt (by omega)]
  have hjb : (UInt8.ofNat j).toNat = j := by rw [UInt8.toNat_ofNat', Nat.mod_eq_of_lt (by omega)]
  obtain ⟨k, hk⟩ : ∃ k : Nat, k = 255 - j := ⟨_, rfl⟩
  have hkb : (UInt8.ofNat k).toNat = k := by rw [UInt8.toNat_ofNat', Nat.mod_eq_of_lt (by omega)]
  have hv1 : V / 2 % 16 = h2.type.toNat ∧ V % 2 = if h2.x = true then 1 else 0 := by
    rw [← hV]; unfold typeN; cases h2.x <;> simp <;> omega
  have hend := loose_get h2 ⟨q1, q2, q3, q4, q5, q6⟩ hm ho2 (UInt8.ofNat V) (UInt8.ofNat j) (UInt8.ofNat k) (by rw [hVb]; exact hv1.1) (by rw [hVb]; exact hv1.2)
  rw [hX2, hK2] at hend
  unfold looseA looseB at hend
  simp only [if_true, Bool.false_eq_true, if_false] at hend
  obtain ⟨l, hl⟩ : ∃ l, h2.bytes ++ List.replicate 1020 0 = l := ⟨_, rfl⟩
  have hll : l.length ≤ 1100 ∧ 1000 < l.length := by rw [← hl, List.length_append, List.length_replicate]; omega
  rw [hl] at hend hb8
  have HEND := Lib.hid (fun w => loose_end h2 ((l.set 8 (UInt8.ofNat V)).set 9 (UInt8.ofNat j)) (by simp; omega) hend.1 hend.2 w)
  have HCV : Hid (∀ (W : World) (g cap : Nat), BRow W g ((l.set 8 (UInt8.ofNat V)).set 9 (UInt8.ofNat j)) → (convert 36 9 (.slice (some ⟨g, 0, none⟩) l.length cap)).run Tryz.prog W = .ok (.string (str ((l.set 8 (UInt8.ofNat V)).set 9 (UInt8.ofNat j)))) W) := Lib.hid (fun W g cap h => by have e := h.conv cap; simpa using e)
  obtain ⟨fs, hfs⟩ : ∃ fs, str ((l.set 8 (UInt8.ofNat V)).set 9 (UInt8.ofNat j)) = fs := ⟨_, rfl⟩
  rw [hfs] at HEND HCV
  have HBA : Hid (∀ (W : World) (g : Nat) (h : BRow W g l), W.cell? ⟨g, 8, none⟩ = some (.int .u8 (typeN h2.type.toNat h2.x : Nat)) ∧ W.frozen? ⟨g, 8, none⟩ = false) := Lib.hid (fun W g h => h.at 8 _ (by omega) hb8)
  have HBV : Hid (∀ (W : World) (g : Nat) (h : BRow W g l), BRow (W.setCell ⟨g, 8, none⟩ (.int .u8 (V : Int))) g (l.set 8 (UInt8.ofNat V))) := Lib.hid (fun W g h => h.set 8 (UInt8.ofNat V) (V : Int) (by rw [hVb]))
  have H9A : Hid (∀ (W : World) (g : Nat) (h : BRow W g (l.set 8 (UInt8.ofNat V))), ∃ z : Value, W.cell? ⟨g, 9, none⟩ = some z ∧ W.frozen? ⟨g, 9, none⟩ = false) := Lib.hid (fun W g h => ⟨_, (h.at 9 _ (by simp; omega) rfl).1, (h.at 9 _ (by simp; omega) rfl).2⟩)
  have H9V : Hid (∀ (W : World) (g : Nat) (h : BRow W g (l.set 8 (UInt8.ofNat V))), BRow (W.setCell ⟨g, 9, none⟩ (.int .u8 (j : Int))) g ((l.set 8 (UInt8.ofNat V)).set 9 (UInt8.ofNat j))) := Lib.hid (fun W g h => h.set 9 (UInt8.ofNat j) (j : Int) (by rw [hjb]))
  have HXR : Hid (bits .xor .u8 (if IntKind.u8.signed = true then -1 else IntKind.u8.max) (j : Int) = (k : Int)) := Lib.hid (by rw [hk]; exact not_bits ⟨j, hj⟩)
  obtain ⟨bs, hbs⟩ : ∃ b, str h2.bytes = b := ⟨_, rfl⟩
  obtain ⟨bz, hbz⟩ : ∃ b, str (List.replicate 1020 (0 : UInt8)) = b := ⟨_, rfl⟩
  obtain ⟨bq, hbq⟩ : ∃ b, str l = b := ⟨_, rfl⟩
  have hcat : bs ++ bz = bq := by rw [← hbs, ← hbz, ← hbq, ← hl, str_append]
  have hzz : ¬ 9223372036854775807 < bs.size + bz.size := by rw [← hbs, ← hbz, str_size, str_size, List.length_replicate]; omega
  rw [hbs] at HPT
  have HADD : Hid (∀ W, (binOp .add 9 (.string bs) (.string bz)).run Tryz.prog W = .ok (.string bq) W) := Lib.hid (fun W => by rw [← hcat]; go_simp)
  have HBZ := Lib.hid hbz; have HBQ := Lib.hid hbq.symm
  generalize typeN h2.type.toNat h2.x = T8 at *
  have HX2 := Lib.hid hX2; have HTY := Lib.hid hty
  have hne : bs.toList.isEmpty = bs.toList.isEmpty := rfl
  obtain ⟨N, hN⟩ : ∃ N, l.length = N := ⟨_, rfl⟩
  rw [hN] at HCV hll
  have HN := Lib.hid hN
  clear hm hh2 q1 q2 q3 q4 q5 q6 hX hK hK2 hX2 ho2 hlen h12 hle ht8 hb8 hV hVb hjb hkb hk hv1 hend hfs hbs hbz hbq hl hty hne hok hN
  have hz : h.box = Obj.cells #[.int .i64 h.src, .int .i64 h.dst, .int .i64 h.off, .int .i64 h.cc, .int .i64 h.cs, .int .i64 h.sum, .int .i64 h.type, .bool h.x, .int .u64 h.seq, .int .u64 h.ack, .int .u32 h.service, .int .i64 h.code, .int .u8 h.i0, .int .u8 h.i1, .int .u8 h.i2] 26 := rfl
  have HA : Hid (HdBlk h w.heap.size (w.alloc h.box) ∧ Below w.heap.size w (w.alloc h.box)) := Lib.hid ⟨heap_alloc_new w _, bel_alloc _ _⟩
  rw [hz] at HA
  clear hz
  unfold Hd.val
  go_enter Tryz.func10, Tryz.ntmps10
  go_upto_region 1 with fail
  obtain ⟨hb0, hbel0⟩ := HA.out
  clear HA
  obtain ⟨C, hC⟩ : ∃ C, C = w.heap.size := ⟨_, rfl⟩
  have hCw : w.heap.size ≤ C := Nat.le_of_eq hC.symm
  rw [← hC] at hb0 ⊢
  generalize w.alloc (Obj.cells #[.int .i64 h.src, .int .i64 h.dst, .int .i64 h.off, .int .i64 h.cc, .int .i64 h.cs, .int .i64 h.sum, .int .i64 h.type, .bool h.x, .int .u64 h.seq, .int .u64 h.ack, .int .u32 h.service, .int .i64 h.code, .int .u8 h.i0, .int .u8 h.i1, .int .u8 h.i2] 26) = W at *
  have HB0 := Lib.hid hb0; have HBEL := Lib.hid hbel0
  clear hb0 hbel0 hC
  go_upto_region 4 with (go_at_call 17; refine (begun_any _).mono ?_; rintro e w0 ⟨rfl, hb1⟩)
  have hb2 := HB0.out.below hb1
  have HBEL1 := Lib.hid (bel_trans HBEL.out hb1)
  have c2 := hb2.at_.2.2.1
  have f2 := hb2.free 2
  have hb3 := hb2.set h2 2 (.int .i64 255) (by rw [← HH2.out]; rfl)
  have hbel3 := HBEL1.out.setCell (p := ⟨C, 2, none⟩) hCw (.int .i64 255)
  have HB3 := Lib.hid hb3; have HBEL3 := Lib.hid hbel3
  clear hb1 hb2 hb3 hbel3 HB0 HBEL HBEL1
  go_upto_region 5 with fail
  clear c2 f2
  generalize w0.setCell ⟨C, 2, none⟩ (.int .i64 255) = W3 at *
  go_upto_region 7 with (first
    | (refine load_blk rfl _ rfl C rfl _ HB3.out ?_)
    | (go_at_call 20; refine (HMY.out _).mono ?_; rintro e w1 ⟨rfl, hb4⟩))
  have HB4 := Lib.hid (HB3.out.below hb4)
  have HBEL4 := Lib.hid (bel_trans HBEL3.out hb4)
  clear hb4 HB3 HBEL3 HMY
  refine wp_cut (fun a' w' => LsFr C j a' ∧ LooseSt w C h2 l (a'.eval (.tmp 6)) w') ?rest ?first
  case first =>
    intro J K' hJ hK
    refine Rg.region (by kernel_rfl) [19, 20, 21, 22, 23, 24, 6] (lsK h2 bs bz bq l (C + 1)) (fun x y => Below x.heap.size x y) (by kernel_rfl) (Below.refl _ _) (fun _ _ _ h k => bel_trans h k) (lsK_keep h2 bs bz bq l (C + 1)) ⟨?_, ?_, ?_, ?_, ?_, ?_, ?_, trivial⟩ ?_
    · intro a W hsl hs hd K1 hk
      exact wp_load_row 26 _ rfl C ((hsl 2 (by decide)).trans rfl) 26 h2.cellsA (0, 0) _ ((HB4.out.drew).below hs) Tryz.underlying26 rfl infoHd (hk _ W (Below.refl _ _) (fun u hu => hu rfl))
    · intro a W hsl hs hd K1 hk
      have e0 : a.eval (.tmp 19) = h2.val := hd ⟨0, .data⟩ (by simp) rfl
      refine Rg.call hk rfl (ex_put _ _ _ _ _ _ rfl e0 rfl) ((HPT.out _).mono ?_)
      rintro e w5 ⟨rfl, hb5⟩
      exact ⟨_, rfl, hb5, rfl⟩
    · intro a W hsl hs hd K1 hk
      obtain ⟨w6, hr6, hb6, hz6⟩ := Rg.make_zeros W 1020 (by omega)
      exact Rg.val hk rfl (Rg.ex_make _ _ _ _ _ _ 1020 1020 _ _ rfl rfl rfl hr6) hb6 ⟨_, rfl, hz6 (by omega)⟩
    · intro a W hsl hs hd K1 hk
      obtain ⟨H, e0, hz0⟩ : ∃ H, a.eval (.tmp 21) = .slice (some ⟨H, 0, none⟩) 1020 1020 ∧ Rg.ZRow W H 1020 := hd ⟨2, .data⟩ (by simp) rfl
      exact Rg.val hk rfl (Rg.ex_slice _ _ _ _ _ _ _ _ _ _ _ rfl e0 hz0.conv) (Below.refl _ _) (by show Value.string _ = Value.string bz; rw [HBZ.out])
    · intro a W hsl hs hd K1 hk
      have e0 : a.eval (.tmp 20) = .string bs := hd ⟨1, .data⟩ (by simp) rfl
      have e1 : a.eval (.tmp 22) = .string bz := hd ⟨3, .data⟩ (by simp) rfl
      exact Rg.val hk rfl (Rg.ex_bin _ _ _ _ _ _ _ _ _ _ _ rfl e0 e1 rfl (HADD.out W)) (Below.refl _ _) rfl
    · intro a W hsl hs hd K1 hk
      have e0 : a.eval (.tmp 23) = .string bq := hd ⟨4, .data⟩ (by simp) rfl
      obtain ⟨cap, ob, hcv, hrow⟩ := conv_row W l
      rw [← HBQ.out] at hcv
      have hb7 : Below W.heap.size W (W.drew.alloc ob) := bel_trans (bel_drewN W 1) (bel_alloc _ _)
      have hg7 : C + 1 ≤ W.heap.size := ((HB4.out.drew).below hs).lt
      exact Rg.val hk rfl (Rg.ex_string _ _ _ _ _ _ _ _ _ rfl e0 hcv) hb7 ⟨_, _, rfl, hrow, hg7⟩
    · intro a W hsl hs hd K1 hk
      have e0 : lsK h2 bs bz bq l (C + 1) 5 (a.eval (.tmp 24)) W := hd ⟨5, .data⟩ (by simp) rfl
      exact Rg.val hk rfl (Rg.ex_assign _ _ _ _ _ rfl rfl) (Below.refl _ _) e0
    · intro a W hsz hdf hsl hs hk
      obtain ⟨g, cap, e6, hrow, hgw⟩ : ∃ g cap, a.eval (.tmp 6) = .slice (some ⟨g, 0, none⟩) l.length cap ∧ BRow W g l ∧ C + 1 ≤ g := hk 6 (by decide)
      refine hK _ _ (Met.intro (hJ _ _ ⟨⟨hsz.trans rfl, hdf.trans rfl, (hsl 1 (by decide)).trans rfl, (hsl 2 (by decide)).trans rfl⟩, g, cap, e6, hrow, by omega, hgw, (HB4.out.drew).below hs, bel_trans HBEL4.out.drew hs⟩))
  intro a2 W7 hh
  obtain ⟨⟨hsz, hdf, e1, e2⟩, g, cap, e6, hrow, hgw, hCg, hC7, hb7⟩ := hh
  obtain ⟨f, hf⟩ : ∃ f : Nat → Value, f = fun i => a2.eval (.tmp i) := ⟨_, rfl⟩
  have e1 : f 1 = .int .u8 (j : Int) := by rw [hf]; exact e1
  have e2 : f 2 = .pointer (some ⟨C, 0, none⟩) := by rw [hf]; exact e2
  have e6 : f 6 = .slice (some ⟨g, 0, none⟩) N cap := by rw [hf, ← HN.out]; exact e6
  have hl : a2 = ⟨((List.range 70).map f).toArray, []⟩ := by rw [hf]; exact Fr.lit a2 70 hsz hdf
  rw [show (List.range 70).map f = [f 0, f 1, f 2, f 3, f 4, f 5, f 6, f 7, f 8, f 9, f 10, f 11, f 12, f 13, f 14, f 15, f 16, f 17, f 18, f 19, f 20, f 21, f 22, f 23, f 24, f 25, f 26, f 27, f 28, f 29, f 30, f 31, f 32, f 33, f 34, f 35, f 36, f 37, f 38, f 39, f 40, f 41, f 42, f 43, f 44, f 45, f 46, f 47, f 48, f 49, f 50, f 51, f 52, f 53, f 54, f 55, f 56, f 57, f 58, f 59, f 60, f 61, f 62, f 63, f 64, f 65, f 66, f 67, f 68, f 69] from rfl, e1, e2, e6] at hl
  rw [hl]
  clear hl e1 e2 e6 hf hsz hdf HB4 HBEL4 HPT HADD HBZ HBQ
  have hgC : g ≠ C := by omega
  have hN9 : 17 < N := by omega
  obtain ⟨c8, f8⟩ := HBA.out W7 g hrow
  have hr8 := HBV.out W7 g hrow
  have hc8 := hC7.other (grown_set W7 g 8 (.int .u8 (V : Int))) (by simpa using hgC.symm)
  have hb8 := hb7.setCell (p := ⟨g, 8, none⟩) hgw (.int .u8 (V : Int))
  have HR8 := Lib.hid hr8; have HC8 := Lib.hid hc8; have HB8 := Lib.hid hb8
  clear hr8 hc8 hb8 hrow hC7 hb7
  go_upto_region 9 with fail
  clear c8 f8 lb1
  generalize W7.setCell ⟨g, 8, none⟩ (.int .u8 (V : Int)) = W8 at *
  have c7 := HC8.out.at_.2.2.2.2.2.2.2.1
  rw [HX2.out] at c7
  go_upto_region 10 with fail
  obtain ⟨z9, k9, l9⟩ := H9A.out W8 g HR8.out
  have hr9 := H9V.out W8 g HR8.out
  have hc9 := HC8.out.other (grown_set W8 g 9 (.int .u8 (j : Int))) (by simpa using hgC.symm)
  have hb9 := HB8.out.setCell (p := ⟨g, 9, none⟩) hgw (.int .u8 (j : Int))
  have HR9 := Lib.hid hr9; have HC9 := Lib.hid hc9; have HB9 := Lib.hid hb9
  clear hr9 hc9 hb9
  go_upto_region 11 with (go_at_call 21; refine (HHA.out _).mono ?_; rintro e w9 ⟨rfl, rfl⟩)
  clear k9 l9 HR8 HC8 HB8
  generalize W8.setCell ⟨g, 9, none⟩ (.int .u8 (j : Int)) = W9 at *
  clear c7
  have c6 := HC9.out.at_.2.2.2.2.2.2.1
  have c7 := HC9.out.at_.2.2.2.2.2.2.2.1
  rw [HX2.out] at c7
  go_upto_region 15 with (go_at_call 21; refine (HHA.out _).mono ?_; rintro e w9 ⟨rfl, rfl⟩)
  clear c6 c7
  have hcv := HCV.out W9 g cap HR9.out
  go_upto_region 16 with (first
    | (go_at_call 25; refine (HEND.out _).mono ?_; rintro e w15 ⟨rfl, hb15⟩)
    | (refine store_blk rfl _ _ rfl _ Hd.zero h2 rfl rfl (hd_new _) ?_; intro W16 hc16e hg16))
  have hb15a := bel_trans HB9.out hb15
  have hlt : C < w15.heap.size := (HC9.out.below hb15).lt
  have hC16 := ((HC9.out.below hb15).below (bel_alloc w15 _)).other hg16 (by simp; omega)
  have HW := Lib.hid ((bel_trans hb15a (bel_alloc w15 _)).grown hg16 (bel_trans hb15a (bel_alloc w15 _)).size (fun k hk => by cases hk; exact hb15a.size))
  have HCa := Lib.hid hc16e; have HCb := Lib.hid hC16
  clear hcv hb15 hb15a hlt hC16 hc16e hg16 HR9 HC9 HB9
  have hez : ∀ w : World, (binOp .eql 26 h2.val h2.val).run Tryz.prog w = .ok (.bool true) w := fun w => by
    have := eqlHd h2 h2 w
    rw [(Hd.eqB_iff h2 h2).2 rfl] at this
    exact this
  have hgz := fun op x y w => guardHd2 op x y h2 h2 w
  go_wp2_with (first
    | (refine load_blk_w rfl _ rfl _ rfl _ HCa.out ?_)
    | (refine load_blk_w rfl _ rfl C rfl _ HCb.out ?_))
  go_ret
  exact ⟨rfl, HW.out⟩

set_option maxHeartbeats 8000000 in
set_option maxRecDepth 100000 in
theorem headLoose_sk (h : Hd) (hok : h.ok) (j : Nat) (hj : j < 256) (hm : ({ h with off := 255 } : Hd).mayB = true) (hX : h.x = false) (hK : hasAckB h.type = true) (w : World) :
    Calls Tryz.prog 10 #[h.val, .int .u8 j] w fun e w' => e = .returned (.bool true) ∧ Below w.heap.size w w' := by
  obtain ⟨h2, hh2⟩ : ∃ h2, ({ h with off := 255 } : Hd) = h2 := ⟨_, rfl⟩
  have ok2 : h2.ok := by rw [← hh2]; exact ⟨hok.seq, hok.ack, hok.service, hok.i0, hok.i1, hok.i2⟩
  have hX2 : h2.x = false := by rw [← hh2]; exact hX
  have hK2 : hasAckB h2.type = true := by rw [← hh2]; exact hK
  have ho2 : h2.off = 255 := by rw [← hh2]
  rw [hh2] at hm
  have hty : 0 ≤ h2.type ∧ h2.type ≤ 9 := by
    obtain ⟨_, _, _, _, _, _, ⟨t1, t2⟩, _⟩ := mayB_bounds hm
    exact ⟨t1, t2⟩
  obtain ⟨q1, q2, q3, q4, q5, q6⟩ := ok2
  have HPT := Lib.hid (fun w => put_yes h2 w hm q1 q2 q3 q4 q5 q6)
  have HMY := Lib.hid (fun w => refMay_any h2 w)
  rw [hm] at HMY
  have HHA := Lib.hid (fun w => hasAck_any h2.type w)
  rw [hK2] at HHA
  have HH2 := Lib.hid hh2
  -- the bytes
  have hlen : h2.bytes.length = sizeN h2.type h2.x := bytes_len hm
  have h12 : 12 ≤ sizeN h2.type h2.x := by
    have := (mayB_more hm).1
    have := sizeN_four h2.type h2.x
    have := size_parts (mayB_more hm).1
    have : 3 ≤ numsLen h2 := by unfold numsLen numLen; cases h2.x <;> simp <;> omega
    omega
  have hle := sizeN_le h2.type h2.x
  have ht8 : typeN h2.type.toNat h2.x < 20 := by have := typeN_le h2.type.toNat h2.x (by omega); omega
  have hb8 : ((h2.bytes ++ List.replicate 1020 0).getD 8 0).toNat = typeN h2.type.toNat h2.x := by
    have e := (nine_at h2 hm (h2.seqBytes ++ (h2.ackBytes ++ h2.extraBytes) ++ List.replicate 1020 0)).2
    rw [show h2.nine ++ (h2.seqBytes ++ (h2.ackBytes ++ h2.extraBytes) ++ List.replicate 1020 0) = h2.bytes ++ List.replicate 1020 0 by rw [bytes_nine]; simp only [List.append_assoc]] at e
    exact e
  obtain ⟨lb1, lb2⟩ := loose_bits ⟨typeN h2.type.toNat h2.x, ht8⟩ ⟨j, hj⟩
  dsimp only at lb1 lb2
  obtain ⟨V, hV⟩ : ∃ V, typeN h2.type.toNat h2.x + j / 32 * 32 = V := ⟨_, rfl⟩
  rw [hV] at lb1 lb2
  have hVb : (UInt8.ofNat V).toNat = V := by rw [UInt8.toNat_ofNat', Nat.mod_eq_of_lt (by omega)]
  have hjb : (UInt8.ofNat j).toNat = j := by rw [UInt8.toNat_ofNat', Nat.mod_eq_of_lt (by omega)]
  obtain ⟨k, hk⟩ : ∃ k : Nat, k = 255 - j := ⟨_, rfl⟩
  have hkb : (UInt8.ofNat k).toNat = k := by rw [UInt8.toNat_ofNat', Nat.mod_eq_of_lt (by omega)]
  have hv1 : V / 2 % 16 = h2.type.toNat ∧ V % 2 = if h2.x = true then 1 else 0 := by
    rw [← hV]; unfold typeN; cases h2.x <;> simp <;> omega
  have hend := loose_get h2 ⟨q1, q2, q3, q4, q5, q6⟩ hm ho2 (UInt8.ofNat V) (UInt8.ofNat j) (UInt8.ofNat k) (by rw [hVb]; exact hv1.1) (by rw [hVb]; exact hv1.2)
  rw [hX2, hK2] at hend
  unfold looseA looseB at hend
  simp only [if_true, Bool.false_eq_true, if_false] at hend
  obtain ⟨l, hl⟩ : ∃ l, h2.bytes ++ List.replicate 1020 0 = l := ⟨_, rfl⟩
  have hll : l.length ≤ 1100 ∧ 1000 < l.length := by rw [← hl, List.length_append, List.length_replicate]; omega
  rw [hl] at hend hb8
  have HEND := Lib.hid (fun w => loose_end h2 ((l.set 8 (UInt8.ofNat V)).set 12 (UInt8.ofNat j)) (by simp; omega) hend.1 hend.2 w)
  have HCV : Hid (∀ (W : World) (g cap : Nat), BRow W g ((l.set 8 (UInt8.ofNat V)).set 12 (UInt8.ofNat j)) → (convert 36 9 (.slice (some ⟨g, 0, none⟩) l.length cap)).run Tryz.prog W = .ok (.string (str ((l.set 8 (UInt8.ofNat V)).set 12 (UInt8.ofNat j)))) W) := Lib.hid (fun W g cap h => by have e := h.conv cap; simpa using e)
  obtain ⟨fs, hfs⟩ : ∃ fs, str ((l.set 8 (UInt8.ofNat V)).set 12 (UInt8.ofNat j)) = fs := ⟨_, rfl⟩
  rw [hfs] at HEND HCV
  have HBA : Hid (∀ (W : World) (g : Nat) (h : BRow W g l), W.cell? ⟨g, 8, none⟩ = some (.int .u8 (typeN h2.type.toNat h2.x : Nat)) ∧ W.frozen? ⟨g, 8, none⟩ = false) := Lib.hid (fun W g h => h.at 8 _ (by omega) hb8)
  have HBV : Hid (∀ (W : World) (g : Nat) (h : BRow W g l), BRow (W.setCell ⟨g, 8, none⟩ (.int .u8 (V : Int))) g (l.set 8 (UInt8.ofNat V))) := Lib.hid (fun W g h => h.set 8 (UInt8.ofNat V) (V : Int) (by rw [hVb]))
  have H12A : Hid (∀ (W : World) (g : Nat) (h : BRow W g (l.set 8 (UInt8.ofNat V))), ∃ z : Value, W.cell? ⟨g, 12, none⟩ = some z ∧ W.frozen? ⟨g, 12, none⟩ = false) := Lib.hid (fun W g h => ⟨_, (h.at 12 _ (by simp; omega) rfl).1, (h.at 12 _ (by simp; omega) rfl).2⟩)
  have H12V : Hid (∀ (W : World) (g : Nat) (h : BRow W g (l.set 8 (UInt8.ofNat V))), BRow (W.setCell ⟨g, 12, none⟩ (.int .u8 (j : Int))) g ((l.set 8 (UInt8.ofNat V)).set 12 (UInt8.ofNat j))) := Lib.hid (fun W g h => h.set 12 (UInt8.ofNat j) (j : Int) (by rw [hjb]))
  have HXR : Hid (bits .xor .u8 (if IntKind.u8.signed = true then -1 else IntKind.u8.max) (j : Int) = (k : Int)) := Lib.hid (by rw [hk]; exact not_bits ⟨j, hj⟩)
  obtain ⟨bs, hbs⟩ : ∃ b, str h2.bytes = b := ⟨_, rfl⟩
  obtain ⟨bz, hbz⟩ : ∃ b, str (List.replicate 1020 (0 : UInt8)) = b := ⟨_, rfl⟩
  obtain ⟨bq, hbq⟩ : ∃ b, str l = b := ⟨_, rfl⟩
  have hcat : bs ++ bz = bq := by rw [← hbs, ← hbz, ← hbq, ← hl, str_append]
  have hzz : ¬ 9223372036854775807 < bs.size + bz.size := by rw [← hbs, ← hbz, str_size, str_size, List.length_replicate]; omega
  rw [hbs] at HPT
  have HADD : Hid (∀ W, (binOp .add 9 (.string bs) (.string bz)).run Tryz.prog W = .ok (.string bq) W) := Lib.hid (fun W => by rw [← hcat]; go_simp)
  have HBZ := Lib.hid hbz; have HBQ := Lib.hid hbq.symm
  generalize typeN h2.type.toNat h2.x = T8 at *
  have HX2 := Lib.hid hX2; have HTY := Lib.hid hty
  have hne : bs.toList.isEmpty = bs.toList.isEmpty := rfl
  obtain ⟨N, hN⟩ : ∃ N, l.length = N := ⟨_, rfl⟩
  rw [hN] at HCV hll
  have HN := Lib.hid hN
  clear hm hh2 q1 q2 q3 q4 q5 q6 hX hK hK2 hX2 ho2 hlen h12 hle ht8 hb8 hV hVb hjb hkb hk hv1 hend hfs hbs hbz hbq hl hty hne hok hN
  have hz : h.box = Obj.cells #[.int .i64 h.src, .int .i64 h.dst, .int .i64 h.off, .int .i64 h.cc, .int .i64 h.cs, .int .i64 h.sum, .int .i64 h.type, .bool h.x, .int .u64 h.seq, .int .u64 h.ack, .int .u32 h.service, .int .i64 h.code, .int .u8 h.i0, .int .u8 h.i1, .int .u8 h.i2] 26 := rfl
  have HA : Hid (HdBlk h w.heap.size (w.alloc h.box) ∧ Below w.heap.size w (w.alloc h.box)) := Lib.hid ⟨heap_alloc_new w _, bel_alloc _ _⟩
  rw [hz] at HA
  clear hz
  unfold Hd.val
  go_enter Tryz.func10, Tryz.ntmps10
  go_upto_region 1 with fail
  obtain ⟨hb0, hbel0⟩ := HA.out
  clear HA
  obtain ⟨C, hC⟩ : ∃ C, C = w.heap.size := ⟨_, rfl⟩
  have hCw : w.heap.size ≤ C := Nat.le_of_eq hC.symm
  rw [← hC] at hb0 ⊢
  generalize w.alloc (Obj.cells #[.int .i64 h.src, .int .i64 h.dst, .int .i64 h.off, .int .i64 h.cc, .int .i64 h.cs, .int .i64 h.sum, .int .i64 h.type, .bool h.x, .int .u64 h.seq, .int .u64 h.ack, .int .u32 h.service, .int .i64 h.code, .int .u8 h.i0, .int .u8 h.i1, .int .u8 h.i2] 26) = W at *
  have HB0 := Lib.hid hb0; have HBEL := Lib.hid hbel0
  clear hb0 hbel0 hC
  go_upto_region 4 with (go_at_call 17; refine (begun_any _).mono ?_; rintro e w0 ⟨rfl, hb1⟩)
  have hb2 := HB0.out.below hb1
  have HBEL1 := Lib.hid (bel_trans HBEL.out hb1)
  have c2 := hb2.at_.2.2.1
  have f2 := hb2.free 2
  have hb3 := hb2.set h2 2 (.int .i64 255) (by rw [← HH2.out]; rfl)
  have hbel3 := HBEL1.out.setCell (p := ⟨C, 2, none⟩) hCw (.int .i64 255)
  have HB3 := Lib.hid hb3; have HBEL3 := Lib.hid hbel3
  clear hb1 hb2 hb3 hbel3 HB0 HBEL HBEL1
  go_upto_region 5 with fail
  clear c2 f2
  generalize w0.setCell ⟨C, 2, none⟩ (.int .i64 255) = W3 at *
  go_upto_region 7 with (first
    | (refine load_blk rfl _ rfl C rfl _ HB3.out ?_)
    | (go_at_call 20; refine (HMY.out _).mono ?_; rintro e w1 ⟨rfl, hb4⟩))
  have HB4 := Lib.hid (HB3.out.below hb4)
  have HBEL4 := Lib.hid (bel_trans HBEL3.out hb4)
  clear hb4 HB3 HBEL3 HMY
  refine wp_cut (fun a' w' => LsFr C j a' ∧ LooseSt w C h2 l (a'.eval (.tmp 6)) w') ?rest ?first
  case first =>
    intro J K' hJ hK
    refine Rg.region (by kernel_rfl) [19, 20, 21, 22, 23, 24, 6] (lsK h2 bs bz bq l (C + 1)) (fun x y => Below x.heap.size x y) (by kernel_rfl) (Below.refl _ _) (fun _ _ _ h k => bel_trans h k) (lsK_keep h2 bs bz bq l (C + 1)) ⟨?_, ?_, ?_, ?_, ?_, ?_, ?_, trivial⟩ ?_
    · intro a W hsl hs hd K1 hk
      exact wp_load_row 26 _ rfl C ((hsl 2 (by decide)).trans rfl) 26 h2.cellsA (0, 0) _ ((HB4.out.drew).below hs) Tryz.underlying26 rfl infoHd (hk _ W (Below.refl _ _) (fun u hu => hu rfl))
    · intro a W hsl hs hd K1 hk
      have e0 : a.eval (.tmp 19) = h2.val := hd ⟨0, .data⟩ (by simp) rfl
      refine Rg.call hk rfl (ex_put _ _ _ _ _ _ rfl e0 rfl) ((HPT.out _).mono ?_)
      rintro e w5 ⟨rfl, hb5⟩
      exact ⟨_, rfl, hb5, rfl⟩
    · intro a W hsl hs hd K1 hk
      obtain ⟨w6, hr6, hb6, hz6⟩ := Rg.make_zeros W 1020 (by omega)
      exact Rg.val hk rfl (Rg.ex_make _ _ _ _ _ _ 1020 1020 _ _ rfl rfl rfl hr6) hb6 ⟨_, rfl, hz6 (by omega)⟩
    · intro a W hsl hs hd K1 hk
      obtain ⟨H, e0, hz0⟩ : ∃ H, a.eval (.tmp 21) = .slice (some ⟨H, 0, none⟩) 1020 1020 ∧ Rg.ZRow W H 1020 := hd ⟨2, .data⟩ (by simp) rfl
      exact Rg.val hk rfl (Rg.ex_slice _ _ _ _ _ _ _ _ _ _ _ rfl e0 hz0.conv) (Below.refl _ _) (by show Value.string _ = Value.string bz; rw [HBZ.out])
    · intro a W hsl hs hd K1 hk
      have e0 : a.eval (.tmp 20) = .string bs := hd ⟨1, .data⟩ (by simp) rfl
      have e1 : a.eval (.tmp 22) = .string bz := hd ⟨3, .data⟩ (by simp) rfl
      exact Rg.val hk rfl (Rg.ex_bin _ _ _ _ _ _ _ _ _ _ _ rfl e0 e1 rfl (HADD.out W)) (Below.refl _ _) rfl
    · intro a W hsl hs hd K1 hk
      have e0 : a.eval (.tmp 23) = .string bq := hd ⟨4, .data⟩ (by simp) rfl
      obtain ⟨cap, ob, hcv, hrow⟩ := conv_row W l
      rw [← HBQ.out] at hcv
      have hb7 : Below W.heap.size W (W.drew.alloc ob) := bel_trans (bel_drewN W 1) (bel_alloc _ _)
      have hg7 : C + 1 ≤ W.heap.size := ((HB4.out.drew).below hs).lt
      exact Rg.val hk rfl (Rg.ex_string _ _ _ _ _ _ _ _ _ rfl e0 hcv) hb7 ⟨_, _, rfl, hrow, hg7⟩
    · intro a W hsl hs hd K1 hk
      have e0 : lsK h2 bs bz bq l (C + 1) 5 (a.eval (.tmp 24)) W := hd ⟨5, .data⟩ (by simp) rfl
      exact Rg.val hk rfl (Rg.ex_assign _ _ _ _ _ rfl rfl) (Below.refl _ _) e0
    · intro a W hsz hdf hsl hs hk
      obtain ⟨g, cap, e6, hrow, hgw⟩ : ∃ g cap, a.eval (.tmp 6) = .slice (some ⟨g, 0, none⟩) l.length cap ∧ BRow W g l ∧ C + 1 ≤ g := hk 6 (by decide)
      refine hK _ _ (Met.intro (hJ _ _ ⟨⟨hsz.trans rfl, hdf.trans rfl, (hsl 1 (by decide)).trans rfl, (hsl 2 (by decide)).trans rfl⟩, g, cap, e6, hrow, by omega, hgw, (HB4.out.drew).below hs, bel_trans HBEL4.out.drew hs⟩))
  intro a2 W7 hh
  obtain ⟨⟨hsz, hdf, e1, e2⟩, g, cap, e6, hrow, hgw, hCg, hC7, hb7⟩ := hh
  obtain ⟨f, hf⟩ : ∃ f : Nat → Value, f = fun i => a2.eval (.tmp i) := ⟨_, rfl⟩
  have e1 : f 1 = .int .u8 (j : Int) := by rw [hf]; exact e1
  have e2 : f 2 = .pointer (some ⟨C, 0, none⟩) := by rw [hf]; exact e2
  have e6 : f 6 = .slice (some ⟨g, 0, none⟩) N cap := by rw [hf, ← HN.out]; exact e6
  have hl : a2 = ⟨((List.range 70).map f).toArray, []⟩ := by rw [hf]; exact Fr.lit a2 70 hsz hdf
  rw [show (List.range 70).map f = [f 0, f 1, f 2, f 3, f 4, f 5, f 6, f 7, f 8, f 9, f 10, f 11, f 12, f 13, f 14, f 15, f 16, f 17, f 18, f 19, f 20, f 21, f 22, f 23, f 24, f 25, f 26, f 27, f 28, f 29, f 30, f 31, f 32, f 33, f 34, f 35, f 36, f 37, f 38, f 39, f 40, f 41, f 42, f 43, f 44, f 45, f 46, f 47, f 48, f 49, f 50, f 51, f 52, f 53, f 54, f 55, f 56, f 57, f 58, f 59, f 60, f 61, f 62, f 63, f 64, f 65, f 66, f 67, f 68, f 69] from rfl, e1, e2, e6] at hl
  rw [hl]
  clear hl e1 e2 e6 hf hsz hdf HB4 HBEL4 HPT HADD HBZ HBQ
  have hgC : g ≠ C := by omega
  have hN9 : 17 < N := by omega
  obtain ⟨c8, f8⟩ := HBA.out W7 g hrow
  have hr8 := HBV.out W7 g hrow
  have hc8 := hC7.other (grown_set W7 g 8 (.int .u8 (V : Int))) (by simpa using hgC.symm)
  have hb8 := hb7.setCell (p := ⟨g, 8, none⟩) hgw (.int .u8 (V : Int))
  have HR8 := Lib.hid hr8; have HC8 := Lib.hid hc8; have HB8 := Lib.hid hb8
  clear hr8 hc8 hb8 hrow hC7 hb7
  go_upto_region 9 with fail
  clear c8 f8 lb1
  generalize W7.setCell ⟨g, 8, none⟩ (.int .u8 (V : Int)) = W8 at *
  have c7 := HC8.out.at_.2.2.2.2.2.2.2.1
  rw [HX2.out] at c7
  go_upto_region 11 with fail
  clear c7
  have c6 := HC8.out.at_.2.2.2.2.2.2.1
  have c7 := HC8.out.at_.2.2.2.2.2.2.2.1
  rw [HX2.out] at c7
  go_upto_region 14 with (go_at_call 21; refine (HHA.out _).mono ?_; rintro e w9 ⟨rfl, rfl⟩)
  clear c6 c7
  obtain ⟨z12, k12, l12⟩ := H12A.out W8 g HR8.out
  have hr12 := H12V.out W8 g HR8.out
  have hc12 := HC8.out.other (grown_set W8 g 12 (.int .u8 (j : Int))) (by simpa using hgC.symm)
  have hb12 := HB8.out.setCell (p := ⟨g, 12, none⟩) hgw (.int .u8 (j : Int))
  have HR12 := Lib.hid hr12; have HC12 := Lib.hid hc12; have HB12 := Lib.hid hb12
  clear hr12 hc12 hb12
  go_upto_region 15 with (go_at_call 21; refine (HHA.out _).mono ?_; rintro e w9 ⟨rfl, rfl⟩)
  clear k12 l12 HR8 HC8 HB8
  generalize W8.setCell ⟨g, 12, none⟩ (.int .u8 (j : Int)) = W12 at *
  have hcv := HCV.out W12 g cap HR12.out
  go_upto_region 16 with (first
    | (go_at_call 25; refine (HEND.out _).mono ?_; rintro e w15 ⟨rfl, hb15⟩)
    | (refine store_blk rfl _ _ rfl _ Hd.zero h2 rfl rfl (hd_new _) ?_; intro W16 hc16e hg16))
  have hb15a := bel_trans HB12.out hb15
  have hlt : C < w15.heap.size := (HC12.out.below hb15).lt
  have hC16 := ((HC12.out.below hb15).below (bel_alloc w15 _)).other hg16 (by simp; omega)
  have HW := Lib.hid ((bel_trans hb15a (bel_alloc w15 _)).grown hg16 (bel_trans hb15a (bel_alloc w15 _)).size (fun k hk => by cases hk; exact hb15a.size))
  have HCa := Lib.hid hc16e; have HCb := Lib.hid hC16
  clear hcv hb15 hb15a hlt hC16 hc16e hg16 HR12 HC12 HB12
  have hez : ∀ w : World, (binOp .eql 26 h2.val h2.val).run Tryz.prog w = .ok (.bool true) w := fun w => by
    have := eqlHd h2 h2 w
    rw [(Hd.eqB_iff h2 h2).2 rfl] at this
    exact this
  have hgz := fun op x y w => guardHd2 op x y h2 h2 w
  go_wp2_with (first
    | (refine load_blk_w rfl _ rfl _ rfl _ HCa.out ?_)
    | (refine load_blk_w rfl _ rfl C rfl _ HCb.out ?_))
  go_ret
  exact ⟨rfl, HW.out⟩

set_option maxHeartbeats 8000000 in
set_option maxRecDepth 100000 in
theorem headLoose_sn (h : Hd) (hok : h.ok) (j : Nat) (hj : j < 256) (hm : ({ h with off := 255 } : Hd).mayB = true) (hX : h.x = false) (hK : hasAckB h.type = false) (w : World) :
    Calls Tryz.prog 10 #[h.val, .int .u8 j] w fun e w' => e = .returned (.bool true) ∧ Below w.heap.size w w' := by
  obtain ⟨h2, hh2⟩ : ∃ h2, ({ h with off := 255 } : Hd) = h2 := ⟨_, rfl⟩
  have ok2 : h2.ok := by rw [← hh2]; exact ⟨hok.seq, hok.ack, hok.service, hok.i0, hok.i1, hok.i2⟩
  have hX2 : h2.x = false := by rw [← hh2]; exact hX
  have hK2 : hasAckB h2.type = false := by rw [← hh2]; exact hK
  have ho2 : h2.off = 255 := by rw [← hh2]
  rw [hh2] at hm
  have hty : 0 ≤ h2.type ∧ h2.type ≤ 9 := by
    obtain ⟨_, _, _, _, _, _, ⟨t1, t2⟩, _⟩ := mayB_bounds hm
    exact ⟨t1, t2⟩
  obtain ⟨q1, q2, q3, q4, q5, q6⟩ := ok2
  have HPT := Lib.hid (fun w => put_yes h2 w hm q1 q2 q3 q4 q5 q6)
  have HMY := Lib.hid (fun w => refMay_any h2 w)
  rw [hm] at HMY
  have HHA := Lib.hid (fun w => hasAck_any h2.type w)
  rw [hK2] at HHA
  have HH2 := Lib.hid hh2
  -- the bytes
  have hlen : h2.bytes.length = sizeN h2.type h2.x := bytes_len hm
  have h12 : 12 ≤ sizeN h2.type h2.x := by
    have := (mayB_more hm).1
    have := sizeN_four h2.type h2.x
    have := size_parts (mayB_more hm).1
    have : 3 ≤ numsLen h2 := by unfold numsLen numLen; cases h2.x <;> simp <;> omega
    omega
  have hle := sizeN_le h2.type h2.x
  have ht8 : typeN h2.type.toNat h2.x < 20 := by have := typeN_le h2.type.toNat h2.x (by omega); omega
  have hb8 : ((h2.bytes ++ List.replicate 1020 0).getD 8 0).toNat = typeN h2.type.toNat h2.x := by
    have e := (nine_at h2 hm (h2.seqBytes ++ (h2.ackBytes ++ h2.extraBytes) ++ List.replicate 1020 0)).2
    rw [show h2.nine ++ (h2.seqBytes ++ (h2.ackBytes ++ h2.extraBytes) ++ List.replicate 1020 0) = h2.bytes ++ List.replicate 1020 0 by rw [bytes_nine]; simp only [List.append_assoc]] at e
    exact e
  obtain ⟨lb1, lb2⟩ := loose_bits ⟨typeN h2.type.toNat h2.x, ht8⟩ ⟨j, hj⟩
  dsimp only at lb1 lb2
  obtain ⟨V, hV⟩ : ∃ V, typeN h2.type.toNat h2.x + j / 32 * 32 = V := ⟨_, rfl⟩
  rw [hV] at lb1 lb2
  have hVb : (UInt8.ofNat V).toNat = V := by rw [UInt8.toNat_ofNat', Nat.mod_eq_of_lt (by omega)]
  have hjb : (UInt8.ofNat j).toNat = j := by rw [UInt8.toNat_ofNat', Nat.mod_eq_of_lt (by omega)]
  obtain ⟨k, hk⟩ : ∃ k : Nat, k = 255 - j := ⟨_, rfl⟩
  have hkb : (UInt8.ofNat k).toNat = k := by rw [UInt8.toNat_ofNat', Nat.mod_eq_of_lt (by omega)]
  have hv1 : V / 2 % 16 = h2.type.toNat ∧ V % 2 = if h2.x = true then 1 else 0 := by
    rw [← hV]; unfold typeN; cases h2.x <;> simp <;> omega
  have hend := loose_get h2 ⟨q1, q2, q3, q4, q5, q6⟩ hm ho2 (UInt8.ofNat V) (UInt8.ofNat j) (UInt8.ofNat k) (by rw [hVb]; exact hv1.1) (by rw [hVb]; exact hv1.2)
  rw [hX2, hK2] at hend
  unfold looseA looseB at hend
  simp only [if_true, Bool.false_eq_true, if_false] at hend
  obtain ⟨l, hl⟩ : ∃ l, h2.bytes ++ List.replicate 1020 0 = l := ⟨_, rfl⟩
  have hll : l.length ≤ 1100 ∧ 1000 < l.length := by rw [← hl, List.length_append, List.length_replicate]; omega
  rw [hl] at hend hb8
  have HEND := Lib.hid (fun w => loose_end h2 (l.set 8 (UInt8.ofNat V)) (by simp; omega) hend.1 hend.2 w)
  have HCV : Hid (∀ (W : World) (g cap : Nat), BRow W g (l.set 8 (UInt8.ofNat V)) → (convert 36 9 (.slice (some ⟨g, 0, none⟩) l.length cap)).run Tryz.prog W = .ok (.string (str (l.set 8 (UInt8.ofNat V)))) W) := Lib.hid (fun W g cap h => by have e := h.conv cap; simpa using e)
  obtain ⟨fs, hfs⟩ : ∃ fs, str (l.set 8 (UInt8.ofNat V)) = fs := ⟨_, rfl⟩
  rw [hfs] at HEND HCV
  have HBA : Hid (∀ (W : World) (g : Nat) (h : BRow W g l), W.cell? ⟨g, 8, none⟩ = some (.int .u8 (typeN h2.type.toNat h2.x : Nat)) ∧ W.frozen? ⟨g, 8, none⟩ = false) := Lib.hid (fun W g h => h.at 8 _ (by omega) hb8)
  have HBV : Hid (∀ (W : World) (g : Nat) (h : BRow W g l), BRow (W.setCell ⟨g, 8, none⟩ (.int .u8 (V : Int))) g (l.set 8 (UInt8.ofNat V))) := Lib.hid (fun W g h => h.set 8 (UInt8.ofNat V) (V : Int) (by rw [hVb]))
  have HXR : Hid (bits .xor .u8 (if IntKind.u8.signed = true then -1 else IntKind.u8.max) (j : Int) = (k : Int)) := Lib.hid (by rw [hk]; exact not_bits ⟨j, hj⟩)
  obtain ⟨bs, hbs⟩ : ∃ b, str h2.bytes = b := ⟨_, rfl⟩
  obtain ⟨bz, hbz⟩ : ∃ b, str (List.replicate 1020 (0 : UInt8)) = b := ⟨_, rfl⟩
  obtain ⟨bq, hbq⟩ : ∃ b, str l = b := ⟨_, rfl⟩
  have hcat : bs ++ bz = bq := by rw [← hbs, ← hbz, ← hbq, ← hl, str_append]
  have hzz : ¬ 9223372036854775807 < bs.size + bz.size := by rw [← hbs, ← hbz, str_size, str_size, List.length_replicate]; omega
  rw [hbs] at HPT
  have HADD : Hid (∀ W, (binOp .add 9 (.string bs) (.string bz)).run Tryz.prog W = .ok (.string bq) W) := Lib.hid (fun W => by rw [← hcat]; go_simp)
  have HBZ := Lib.hid hbz; have HBQ := Lib.hid hbq.symm
  generalize typeN h2.type.toNat h2.x = T8 at *
  have HX2 := Lib.hid hX2; have HTY := Lib.hid hty
  have hne : bs.toList.isEmpty = bs.toList.isEmpty := rfl
  obtain ⟨N, hN⟩ : ∃ N, l.length = N := ⟨_, rfl⟩
  rw [hN] at HCV hll
  have HN := Lib.hid hN
  clear hm hh2 q1 q2 q3 q4 q5 q6 hX hK hK2 hX2 ho2 hlen h12 hle ht8 hb8 hV hVb hjb hkb hk hv1 hend hfs hbs hbz hbq hl hty hne hok hN
  have hz : h.box = Obj.cells #[.int .i64 h.src, .int .i64 h.dst, .int .i64 h.off, .int .i64 h.cc, .int .i64 h.cs, .int .i64 h.sum, .int .i64 h.type, .bool h.x, .int .u64 h.seq, .int .u64 h.ack, .int .u32 h.service, .int .i64 h.code, .int .u8 h.i0, .int .u8 h.i1, .int .u8 h.i2] 26 := rfl
  have HA : Hid (HdBlk h w.heap.size (w.alloc h.box) ∧ Below w.heap.size w (w.alloc h.box)) := Lib.hid ⟨heap_alloc_new w _, bel_alloc _ _⟩
  rw [hz] at HA
  clear hz
  unfold Hd.val
  go_enter Tryz.func10, Tryz.ntmps10
  go_upto_region 1 with fail
  obtain ⟨hb0, hbel0⟩ := HA.out
  clear HA
  obtain ⟨C, hC⟩ : ∃ C, C = w.heap.size := ⟨_, rfl⟩
  have hCw : w.heap.size ≤ C := Nat.le_of_eq hC.symm
  rw [← hC] at hb0 ⊢
  generalize w.alloc (Obj.cells #[.int .i64 h.src, .int .i64 h.dst, .int .i64 h.off, .int .i64 h.cc, .int .i64 h.cs, .int .i64 h.sum, .int .i64 h.type, .bool h.x, .int .u64 h.seq, .int .u64 h.ack, .int .u32 h.service, .int .i64 h.code, .int .u8 h.i0, .int .u8 h.i1, .int .u8 h.i2] 26) = W at *
  have HB0 := Lib.hid hb0; have HBEL := Lib.hid hbel0
  clear hb0 hbel0 hC
  go_upto_region 4 with (go_at_call 17; refine (begun_any _).mono ?_; rintro e w0 ⟨rfl, hb1⟩)
  have hb2 := HB0.out.below hb1
  have HBEL1 := Lib.hid (bel_trans HBEL.out hb1)
  have c2 := hb2.at_.2.2.1
  have f2 := hb2.free 2
  have hb3 := hb2.set h2 2 (.int .i64 255) (by rw [← HH2.out]; rfl)
  have hbel3 := HBEL1.out.setCell (p := ⟨C, 2, none⟩) hCw (.int .i64 255)
  have HB3 := Lib.hid hb3; have HBEL3 := Lib.hid hbel3
  clear hb1 hb2 hb3 hbel3 HB0 HBEL HBEL1
  go_upto_region 5 with fail
  clear c2 f2
  generalize w0.setCell ⟨C, 2, none⟩ (.int .i64 255) = W3 at *
  go_upto_region 7 with (first
    | (refine load_blk rfl _ rfl C rfl _ HB3.out ?_)
    | (go_at_call 20; refine (HMY.out _).mono ?_; rintro e w1 ⟨rfl, hb4⟩))
  have HB4 := Lib.hid (HB3.out.below hb4)
  have HBEL4 := Lib.hid (bel_trans HBEL3.out hb4)
  clear hb4 HB3 HBEL3 HMY
  refine wp_cut (fun a' w' => LsFr C j a' ∧ LooseSt w C h2 l (a'.eval (.tmp 6)) w') ?rest ?first
  case first =>
    intro J K' hJ hK
    refine Rg.region (by kernel_rfl) [19, 20, 21, 22, 23, 24, 6] (lsK h2 bs bz bq l (C + 1)) (fun x y => Below x.heap.size x y) (by kernel_rfl) (Below.refl _ _) (fun _ _ _ h k => bel_trans h k) (lsK_keep h2 bs bz bq l (C + 1)) ⟨?_, ?_, ?_, ?_, ?_, ?_, ?_, trivial⟩ ?_
    · intro a W hsl hs hd K1 hk
      exact wp_load_row 26 _ rfl C ((hsl 2 (by decide)).trans rfl) 26 h2.cellsA (0, 0) _ ((HB4.out.drew).below hs) Tryz.underlying26 rfl infoHd (hk _ W (Below.refl _ _) (fun u hu => hu rfl))
    · intro a W hsl hs hd K1 hk
      have e0 : a.eval (.tmp 19) = h2.val := hd ⟨0, .data⟩ (by simp) rfl
      refine Rg.call hk rfl (ex_put _ _ _ _ _ _ rfl e0 rfl) ((HPT.out _).mono ?_)
      rintro e w5 ⟨rfl, hb5⟩
      exact ⟨_, rfl, hb5, rfl⟩
    · intro a W hsl hs hd K1 hk
      obtain ⟨w6, hr6, hb6, hz6⟩ := Rg.make_zeros W 1020 (by omega)
      exact Rg.val hk rfl (Rg.ex_make _ _ _ _ _ _ 1020 1020 _ _ rfl rfl rfl hr6) hb6 ⟨_, rfl, hz6 (by omega)⟩
    · intro a W hsl hs hd K1 hk
      obtain ⟨H, e0, hz0⟩ : ∃ H, a.eval (.tmp 21) = .slice (some ⟨H, 0, none⟩) 1020 1020 ∧ Rg.ZRow W H 1020 := hd ⟨2, .data⟩ (by simp) rfl
      exact Rg.val hk rfl (Rg.ex_slice _ _ _ _ _ _ _ _ _ _ _ rfl e0 hz0.conv) (Below.refl _ _) (by show Value.string _ = Value.string bz; rw [HBZ.out])
    · intro a W hsl hs hd K1 hk
      have e0 : a.eval (.tmp 20) = .string bs := hd ⟨1, .data⟩ (by simp) rfl
      have e1 : a.eval (.tmp 22) = .string bz := hd ⟨3, .data⟩ (by simp) rfl
      exact Rg.val hk rfl (Rg.ex_bin _ _ _ _ _ _ _ _ _ _ _ rfl e0 e1 rfl (HADD.out W)) (Below.refl _ _) rfl
    · intro a W hsl hs hd K1 hk
      have e0 : a.eval (.tmp 23) = .string bq := hd ⟨4, .data⟩ (by simp) rfl
      obtain ⟨cap, ob, hcv, hrow⟩ := conv_row W l
      rw [← HBQ.out] at hcv
      have hb7 : Below W.heap.size W (W.drew.alloc ob) := bel_trans (bel_drewN W 1) (bel_alloc _ _)
      have hg7 : C + 1 ≤ W.heap.size := ((HB4.out.drew).below hs).lt
      exact Rg.val hk rfl (Rg.ex_string _ _ _ _ _ _ _ _ _ rfl e0 hcv) hb7 ⟨_, _, rfl, hrow, hg7⟩
    · intro a W hsl hs hd K1 hk
      have e0 : lsK h2 bs bz bq l (C + 1) 5 (a.eval (.tmp 24)) W := hd ⟨5, .data⟩ (by simp) rfl
      exact Rg.val hk rfl (Rg.ex_assign _ _ _ _ _ rfl rfl) (Below.refl _ _) e0
    · intro a W hsz hdf hsl hs hk
      obtain ⟨g, cap, e6, hrow, hgw⟩ : ∃ g cap, a.eval (.tmp 6) = .slice (some ⟨g, 0, none⟩) l.length cap ∧ BRow W g l ∧ C + 1 ≤ g := hk 6 (by decide)
      refine hK _ _ (Met.intro (hJ _ _ ⟨⟨hsz.trans rfl, hdf.trans rfl, (hsl 1 (by decide)).trans rfl, (hsl 2 (by decide)).trans rfl⟩, g, cap, e6, hrow, by omega, hgw, (HB4.out.drew).below hs, bel_trans HBEL4.out.drew hs⟩))
  intro a2 W7 hh
  obtain ⟨⟨hsz, hdf, e1, e2⟩, g, cap, e6, hrow, hgw, hCg, hC7, hb7⟩ := hh
  obtain ⟨f, hf⟩ : ∃ f : Nat → Value, f = fun i => a2.eval (.tmp i) := ⟨_, rfl⟩
  have e1 : f 1 = .int .u8 (j : Int) := by rw [hf]; exact e1
  have e2 : f 2 = .pointer (some ⟨C, 0, none⟩) := by rw [hf]; exact e2
  have e6 : f 6 = .slice (some ⟨g, 0, none⟩) N cap := by rw [hf, ← HN.out]; exact e6
  have hl : a2 = ⟨((List.range 70).map f).toArray, []⟩ := by rw [hf]; exact Fr.lit a2 70 hsz hdf
  rw [show (List.range 70).map f = [f 0, f 1, f 2, f 3, f 4, f 5, f 6, f 7, f 8, f 9, f 10, f 11, f 12, f 13, f 14, f 15, f 16, f 17, f 18, f 19, f 20, f 21, f 22, f 23, f 24, f 25, f 26, f 27, f 28, f 29, f 30, f 31, f 32, f 33, f 34, f 35, f 36, f 37, f 38, f 39, f 40, f 41, f 42, f 43, f 44, f 45, f 46, f 47, f 48, f 49, f 50, f 51, f 52, f 53, f 54, f 55, f 56, f 57, f 58, f 59, f 60, f 61, f 62, f 63, f 64, f 65, f 66, f 67, f 68, f 69] from rfl, e1, e2, e6] at hl
  rw [hl]
  clear hl e1 e2 e6 hf hsz hdf HB4 HBEL4 HPT HADD HBZ HBQ
  have hgC : g ≠ C := by omega
  have hN9 : 17 < N := by omega
  obtain ⟨c8, f8⟩ := HBA.out W7 g hrow
  have hr8 := HBV.out W7 g hrow
  have hc8 := hC7.other (grown_set W7 g 8 (.int .u8 (V : Int))) (by simpa using hgC.symm)
  have hb8 := hb7.setCell (p := ⟨g, 8, none⟩) hgw (.int .u8 (V : Int))
  have HR8 := Lib.hid hr8; have HC8 := Lib.hid hc8; have HB8 := Lib.hid hb8
  clear hr8 hc8 hb8 hrow hC7 hb7
  go_upto_region 9 with fail
  clear c8 f8 lb1
  generalize W7.setCell ⟨g, 8, none⟩ (.int .u8 (V : Int)) = W8 at *
  have c7 := HC8.out.at_.2.2.2.2.2.2.2.1
  rw [HX2.out] at c7
  go_upto_region 11 with fail
  clear c7
  have c6 := HC8.out.at_.2.2.2.2.2.2.1
  have c7 := HC8.out.at_.2.2.2.2.2.2.2.1
  rw [HX2.out] at c7
  go_upto_region 15 with (go_at_call 21; refine (HHA.out _).mono ?_; rintro e w9 ⟨rfl, rfl⟩)
  clear c6 c7
  have hcv := HCV.out W8 g cap HR8.out
  go_upto_region 16 with (first
    | (go_at_call 25; refine (HEND.out _).mono ?_; rintro e w15 ⟨rfl, hb15⟩)
    | (refine store_blk rfl _ _ rfl _ Hd.zero h2 rfl rfl (hd_new _) ?_; intro W16 hc16e hg16))
  have hb15a := bel_trans HB8.out hb15
  have hlt : C < w15.heap.size := (HC8.out.below hb15).lt
  have hC16 := ((HC8.out.below hb15).below (bel_alloc w15 _)).other hg16 (by simp; omega)
  have HW := Lib.hid ((bel_trans hb15a (bel_alloc w15 _)).grown hg16 (bel_trans hb15a (bel_alloc w15 _)).size (fun k hk => by cases hk; exact hb15a.size))
  have HCa := Lib.hid hc16e; have HCb := Lib.hid hC16
  clear hcv hb15 hb15a hlt hC16 hc16e hg16 HR8 HC8 HB8
  have hez : ∀ w : World, (binOp .eql 26 h2.val h2.val).run Tryz.prog w = .ok (.bool true) w := fun w => by
    have := eqlHd h2 h2 w
    rw [(Hd.eqB_iff h2 h2).2 rfl] at this
    exact this
  have hgz := fun op x y w => guardHd2 op x y h2 h2 w
  go_wp2_with (first
    | (refine load_blk_w rfl _ rfl _ rfl _ HCa.out ?_)
    | (refine load_blk_w rfl _ rfl C rfl _ HCb.out ?_))
  go_ret
  exact ⟨rfl, HW.out⟩

theorem headLoose_walk (h : Hd) (hok : h.ok) (j : Nat) (hj : j < 256) (w : World) :
    Calls Tryz.prog 10 #[h.val, .int .u8 j] w fun e w' => e = .returned (.bool true) ∧ Below w.heap.size w w' := by
  cases hm : ({ h with off := 255 } : Hd).mayB with
  | false => exact headLoose_no h hok j hj hm w
  | true =>
    cases hx : h.x <;> cases hk : hasAckB h.type
    · exact headLoose_sn h hok j hj hm hx hk w
    · exact headLoose_sk h hok j hj hm hx hk w
    · exact headLoose_xn h hok j hj hm hx hk w
    · exact headLoose_xk h hok j hj hm hx hk w
end Go.Proofs.YtjbcjcfmjagbkaaGreatDoor
