/-
  The law HeadAll, walked.
-/
import Derived.Test.YtcdhllajdpalaaaGreatDoorRefGet3
import Derived.Test.YtcdhllajdpalaaaGreatDoorRefPut
import Derived.Test.YtcdhllajdpalaaaGreatDoorLawSum
import Derived.Test.YtcdhllajdpalaaaGreatDoorHdEq
import Derived.Deep.RegionHeld3
namespace Go.Proofs.YtcdhllajdpalaaaGreatDoor
open Go.ChangeShapes Go.WideShapes Go.ChangeAt Go.RowKit
set_option linter.unusedVariables false
set_option linter.unusedSimpArgs false

/-- What is read of any bytes. -/
def gotHd (l : List UInt8) : Hd := if faultN l = 0 then getHd l else Hd.zero
theorem get_uniH (l : List UInt8) (hl : l.length ≤ 1000000000) (w : World) :
    Calls Tryz.prog 13 #[.string (str l)] w fun e w' => e = .returned (.tuple #[(gotHd l).val, .int .i64 (faultN l)]) ∧ Below w.heap.size w w' := by
  unfold gotHd
  by_cases h : faultN l = 0
  · rw [if_pos h, h]; exact get_yes l (by omega) w h
  · rw [if_neg h]; exact get_no l (by omega) w h
theorem refGet_uniH (l : List UInt8) (hl : l.length ≤ 1000000000) (w : World) :
    Calls Tryz.prog 14 #[.string (str l)] w fun e w' => e = .returned (.tuple #[(gotHd l).val, .int .i64 (faultN l)]) ∧ Below w.heap.size w w' := by
  unfold gotHd
  by_cases h12 : l.length < 12
  · have e1 : faultN l = 1 := by unfold faultN; rw [if_pos h12]
    rw [e1, if_neg (by decide)]
    exact refGet_short l h12 w
  · refine (refGet_long l (by omega) hl w).mono fun e w' ⟨h1, h2⟩ => ?_
    by_cases h : faultN l = 0
    · rw [if_pos h, h]; exact h2 h
    · rw [if_neg h]; exact h1 h
theorem eqB_refl (g : Hd) : g.eqB g = true := (Hd.eqB_iff g g).2 rfl
/-- What is held while a head lies in block C. -/
structure HSt (w : World) (h : Hd) (C : Nat) (W : World) : Prop where
  blk : HdBlk h C W
  bel : Below w.heap.size w W
theorem HSt.s {w : World} {h : Hd} {C : Nat} {W : World} (a : HSt w h C W) : HSt w h C W ∧ W.cell? ⟨C, 0, none⟩ = some (.int .i64 h.src) ∧ W.cell? ⟨C, 1, none⟩ = some (.int .i64 h.dst) ∧ W.cell? ⟨C, 2, none⟩ = some (.int .i64 h.off) ∧ W.cell? ⟨C, 3, none⟩ = some (.int .i64 h.cc) ∧ W.cell? ⟨C, 4, none⟩ = some (.int .i64 h.cs) ∧ W.cell? ⟨C, 5, none⟩ = some (.int .i64 h.sum) ∧ W.cell? ⟨C, 6, none⟩ = some (.int .i64 h.type) ∧ W.cell? ⟨C, 7, none⟩ = some (.bool h.x) ∧ W.cell? ⟨C, 8, none⟩ = some (.int .u64 h.seq) ∧ W.cell? ⟨C, 9, none⟩ = some (.int .u64 h.ack) ∧ W.cell? ⟨C, 10, none⟩ = some (.int .u32 h.service) ∧ W.cell? ⟨C, 11, none⟩ = some (.int .i64 h.code) ∧ W.cell? ⟨C, 12, none⟩ = some (.int .u8 h.i0) ∧ W.cell? ⟨C, 13, none⟩ = some (.int .u8 h.i1) ∧ W.cell? ⟨C, 14, none⟩ = some (.int .u8 h.i2) :=
  ⟨a, a.blk.cell 0 _ rfl, a.blk.cell 1 _ rfl, a.blk.cell 2 _ rfl, a.blk.cell 3 _ rfl, a.blk.cell 4 _ rfl, a.blk.cell 5 _ rfl, a.blk.cell 6 _ rfl, a.blk.cell 7 _ rfl, a.blk.cell 8 _ rfl, a.blk.cell 9 _ rfl, a.blk.cell 10 _ rfl, a.blk.cell 11 _ rfl, a.blk.cell 12 _ rfl, a.blk.cell 13 _ rfl, a.blk.cell 14 _ rfl⟩
theorem HSt.drew {w : World} {h : Hd} {C : Nat} {W : World} (a : HSt w h C W) : HSt w h C W.drew := ⟨a.blk, a.bel.drew⟩
theorem HSt.below {w : World} {h : Hd} {C : Nat} {W W' : World} (a : HSt w h C W) (hb : Below W.heap.size W W') : HSt w h C W' := ⟨a.blk.below hb, bel_trans a.bel hb⟩
theorem hd_newL (w : World) : HdBlk Hd.zero w.heap.size (w.alloc Hd.zero.box) := heap_alloc_new w _
theorem HSt.grown {w : World} {h : Hd} {C : Nat} {W W' : World} {D : Nat} (a : HSt w h C W) (hg : W.grownBy W' (some D)) (h1 : C ≠ D) (h2 : w.heap.size ≤ D) : HSt w h C W' :=
  ⟨a.blk.other hg (by simp; exact h1), a.bel.grown hg a.bel.size (fun k hk => by cases hk; exact h2)⟩

set_option maxHeartbeats 4000000 in
set_option maxRecDepth 100000 in
theorem headAll_walk (h : Hd) (hok : h.ok) (s : ByteArray) (hs : s.size ≤ maxLen) (data : Int) (d1 : -9223372036854775808 ≤ data) (d2 : data ≤ 9223372036854775807) (w : World) :
    Calls Tryz.prog 3 #[h.val, .string s, .int .i64 data] w fun e w' => e = .returned (.bool true) ∧ Below w.heap.size w w' := by
  have hok2 := hok
  obtain ⟨q1, q2, q3, q4, q5, q6⟩ := hok
  have HM1 := Lib.hid (fun w => may_any h w q1 q2)
  have HM2 := Lib.hid (fun w => refMay_any h w)
  have HA1 := Lib.hid (fun w => hasAck_any h.type w)
  have HA2 := Lib.hid (fun w => refHasAck_any h.type w)
  have HZ1 := Lib.hid (fun w => size_any h.type h.x w)
  have HZ2 := Lib.hid (fun w => refSize_any h.type h.x w)
  obtain ⟨l, hl⟩ : ∃ l, s.data.toList.take 60 = l := ⟨_, rfl⟩
  have hll : l.length ≤ 60 := by rw [← hl, List.length_take]; omega
  have HT := Lib.hid (fun W => textN_any s 60 60 l rfl (by omega) hs hl W)
  have HG1 := Lib.hid (fun W => get_uniH l (by omega) W)
  have HG2 := Lib.hid (fun W => refGet_uniH l (by omega) W)
  obtain ⟨bl, hbl⟩ : ∃ b, str l = b := ⟨_, rfl⟩
  obtain ⟨G, hG⟩ : ∃ g, gotHd l = g := ⟨_, rfl⟩
  obtain ⟨f, hf⟩ : ∃ n, faultN l = n := ⟨_, rfl⟩
  rw [hbl] at HT; rw [hbl, hG, hf] at HG1 HG2
  clear hbl hG hf hl hll
  have HNE : Hid (∀ W, (binOp .neq 26 G.val G.val).run Tryz.prog W = .ok (.bool false) W) := Lib.hid (fun W => by have := neqHd G G W; rwa [eqB_refl] at this)
  have hz : h.box = Obj.cells #[.int .i64 h.src, .int .i64 h.dst, .int .i64 h.off, .int .i64 h.cc, .int .i64 h.cs, .int .i64 h.sum, .int .i64 h.type, .bool h.x, .int .u64 h.seq, .int .u64 h.ack, .int .u32 h.service, .int .i64 h.code, .int .u8 h.i0, .int .u8 h.i1, .int .u8 h.i2] 26 := rfl
  have HA : Hid (HdBlk h w.heap.size (w.alloc h.box) ∧ Below w.heap.size w (w.alloc h.box)) := Lib.hid ⟨heap_alloc_new w _, bel_alloc _ _⟩
  rw [hz] at HA
  clear hz
  unfold Hd.val at HM1 HM2 ⊢
  go_enter Tryz.func3, Tryz.ntmps3
  go_upto_region 1 with fail
  obtain ⟨hb0, hbel0⟩ := HA.out
  clear HA
  obtain ⟨C, hC⟩ : ∃ C, C = w.heap.size := ⟨_, rfl⟩
  rw [← hC] at hb0 ⊢
  generalize w.alloc (Obj.cells #[.int .i64 h.src, .int .i64 h.dst, .int .i64 h.off, .int .i64 h.cc, .int .i64 h.cs, .int .i64 h.sum, .int .i64 h.type, .bool h.x, .int .u64 h.seq, .int .u64 h.ack, .int .u32 h.service, .int .i64 h.code, .int .u8 h.i0, .int .u8 h.i1, .int .u8 h.i2] 26) = W at *
  have HB0 : Hid (HSt w h C W) := Lib.hid ⟨hb0, hbel0⟩
  clear hb0 hbel0 hC
  go_upto_region 5 with (first
    | (go_at_call 5; refine (begun_any _).mono ?_; rintro e w0 ⟨rfl, hb1⟩)
    | (go_at_call 6; (with_reducible refine (HT.out _).mono ?_); rintro e w1 ⟨rfl, rfl⟩))
  have HB1 := Lib.hid (HB0.out.below hb1)
  clear hb1 HB0
  go_region_held3 (fun W => HSt w h C W ∧ W.cell? ⟨C, 0, none⟩ = some (.int .i64 h.src) ∧ W.cell? ⟨C, 1, none⟩ = some (.int .i64 h.dst) ∧ W.cell? ⟨C, 2, none⟩ = some (.int .i64 h.off) ∧ W.cell? ⟨C, 3, none⟩ = some (.int .i64 h.cc) ∧ W.cell? ⟨C, 4, none⟩ = some (.int .i64 h.cs) ∧ W.cell? ⟨C, 5, none⟩ = some (.int .i64 h.sum) ∧ W.cell? ⟨C, 6, none⟩ = some (.int .i64 h.type) ∧ W.cell? ⟨C, 7, none⟩ = some (.bool h.x) ∧ W.cell? ⟨C, 8, none⟩ = some (.int .u64 h.seq) ∧ W.cell? ⟨C, 9, none⟩ = some (.int .u64 h.ack) ∧ W.cell? ⟨C, 10, none⟩ = some (.int .u32 h.service) ∧ W.cell? ⟨C, 11, none⟩ = some (.int .i64 h.code) ∧ W.cell? ⟨C, 12, none⟩ = some (.int .u8 h.i0) ∧ W.cell? ⟨C, 13, none⟩ = some (.int .u8 h.i1) ∧ W.cell? ⟨C, 14, none⟩ = some (.int .u8 h.i2))
    (first | exact HB1.out.s | exact HB1.out.drew.s | assumption | exact (And.left ‹HSt w h C _ ∧ _›).s | exact (HSt.below (And.left ‹HSt w h C _ ∧ _›) hbx).s)
    (first
    | (go_at_call 7; (with_reducible refine (HM1.out _).mono ?_); rintro e w6 ⟨rfl, hbx⟩)
    | (go_at_call 8; (with_reducible refine (HM2.out _).mono ?_); rintro e w7 ⟨rfl, hbx⟩)
    | (go_at_call 9; (with_reducible refine (HA1.out _).mono ?_); rintro e w8 ⟨rfl, rfl⟩)
    | (go_at_call 10; (with_reducible refine (HA2.out _).mono ?_); rintro e w8 ⟨rfl, rfl⟩)
    | (go_at_call 11; (with_reducible refine (HZ1.out _).mono ?_); rintro e w8 ⟨rfl, rfl⟩)
    | (go_at_call 12; (with_reducible refine (HZ2.out _).mono ?_); rintro e w8 ⟨rfl, rfl⟩))
  have HB2 : Hid (HSt w h C w7) := Lib.hid (And.left ‹HSt w h C w7 ∧ _›)
  clear hbx
  clear hbx
  clear HB1 HM1 HM2 HA1 HA2 HT
  have HM2 := Lib.hid (fun w => refMay_any h w)
  go_upto_region 8 with (first
    | (go_at_call 13; (with_reducible refine (HG1.out _).mono ?_); rintro e w8 ⟨rfl, hb8⟩)
    | (refine store_blk rfl _ _ rfl _ Hd.zero G rfl rfl (hd_new _) ?_; intro W2 hc2 hg2))
  have hs8 := HB2.out.below hb8
  obtain ⟨C8, hC8⟩ : ∃ c, c = w8.heap.size := ⟨_, rfl⟩
  have h8C : C < C8 ∧ w.heap.size ≤ C8 := by rw [hC8]; exact ⟨hs8.blk.lt, hs8.bel.size⟩
  have HB3 : Hid (HSt w h C W2) := Lib.hid ((hs8.below (bel_alloc _ _)).grown hg2 (by omega) (by omega))
  rw [← hC8] at hc2 ⊢
  have HC8 : Hid (HdBlk G C8 W2) := Lib.hid hc2
  have H8C := Lib.hid h8C
  clear hb8 hc2 hg2 hs8 hC8 h8C HB2 HG1
  go_upto_region 9 with (first
    | (go_at_call 14; (with_reducible refine (HG2.out _).mono ?_); rintro e w9 ⟨rfl, hb9⟩)
    | (refine store_blk rfl _ _ rfl _ Hd.zero G rfl rfl (hd_new _) ?_; intro W3 hc3 hg3))
  have hs9 := HB3.out.below hb9
  have hc9 := HC8.out.below hb9
  obtain ⟨C10, hC10⟩ : ∃ c, c = w9.heap.size := ⟨_, rfl⟩
  have HB4 : Hid (HSt w h C W3) := Lib.hid ((hs9.below (bel_alloc _ _)).grown hg3 (by have := hs9.blk.lt; omega) (by have := hs9.bel.size; omega))
  have HC8b : Hid (HdBlk G C8 W3) := Lib.hid ((hc9.below (bel_alloc _ _)).other hg3 (by have := hc9.lt; simp; omega))
  rw [← hC10] at hc3 ⊢
  have HC10 : Hid (HdBlk G C10 W3) := Lib.hid hc3
  clear hb9 hc3 hg3 hs9 hc9 hC10 HB3 HC8 HG2
  have hne := HNE.out
  have hgz := fun op x y w => guardHd2 op x y G G w
  go_upto_region 11 with (first
    | (refine load_blk_w rfl _ rfl C8 rfl _ HC8b.out ?_)
    | (refine load_blk_w rfl _ rfl C10 rfl _ HC10.out ?_))
  clear hne hgz HNE HC10
  by_cases hm : h.mayB = true
  · have HPT := Lib.hid (fun w => put_yes h w hm q1 q2 q3 q4 q5 q6)
    have HPH := Lib.hid (fun w => refPut_any h hok2 hm w)
    have hlen : h.bytes.length = sizeN h.type h.x := bytes_len hm
    have hle := sizeN_le h.type h.x
    obtain ⟨_, _, ⟨o1, o2⟩, _⟩ := mayB_bounds hm
    obtain ⟨n, hn⟩ : ∃ n, sizeN h.type h.x = n := ⟨_, rfl⟩
    rw [hn] at hlen hle HZ1
    obtain ⟨Z, hZ⟩ : ∃ Z : Int, (n : Int) = Z := ⟨_, rfl⟩
    rw [hZ] at HZ1
    obtain ⟨Y, hY⟩ : ∃ Y : Int, h.off = Y := ⟨_, rfl⟩
    rw [hY] at o1 o2
    obtain ⟨a1, a2⟩ := tmod_lim data 9 (by decide)
    obtain ⟨D, hD⟩ : ∃ k, data.tmod 9 = k := ⟨_, rfl⟩
    rw [hD] at a1 a2
    obtain ⟨K, hK⟩ : ∃ K : Nat, max 0 (min (4 * Y - Z + D) 1100) = (K : Int) := ⟨(max 0 (min (4 * Y - Z + D) 1100)).toNat, by omega⟩
    have hKle : K ≤ 1100 := by omega
    have z1 : 0 ≤ Z ∧ Z ≤ 28 := by omega
    obtain ⟨L, hL⟩ : ∃ L, h.bytes ++ List.replicate K 0 = L := ⟨_, rfl⟩
    have hLl : L.length = n + K := by rw [← hL, List.length_append, List.length_replicate, hlen]
    have hfl : faultN L = if Z + K < 4 * Y then 4 else 0 := by
      have := fault_bytes h hm (List.replicate K 0)
      rw [hL, hLl] at this
      rw [this]
      have hto : h.off.toNat = Y.toNat := by rw [hY]
      by_cases hA : Z + K < 4 * Y
      · rw [if_pos hA, if_pos (by omega)]
      · rw [if_neg hA, if_neg (by omega)]
    have hgl : getHd L = h := by rw [← hL]; exact getHd_bytes h hok2 hm _
    have hget := fun W => get_uniH L (by omega) W
    have hcat : str h.bytes ++ str (List.replicate K 0) = str L := by rw [str_append, hL]
    rw [← hcat] at hget
    obtain ⟨bs, hbs⟩ : ∃ b, str h.bytes = b := ⟨_, rfl⟩
    obtain ⟨zs, hzs⟩ : ∃ b, str (List.replicate K 0) = b := ⟨_, rfl⟩
    have hbl : (bs.size : Int) = Z := by rw [← hbs, str_size, hlen, hZ]
    have hzl : (zs.size : Int) = (K : Int) := by rw [← hzs, str_size, List.length_replicate]
    have hns : ¬ 9223372036854775807 < bs.size + zs.size := by omega
    rw [hbs] at HPT HPH hget
    rw [hzs] at hget
    have HG3 := Lib.hid hget
    have HZS := Lib.hid hzs
    have HFL := Lib.hid hfl
    have HGL := Lib.hid hgl
    have HK := Lib.hid hK
    have HY := Lib.hid hY
    rw [hm] at HM2
    clear hget hzs hbs hcat hgl hfl hLl hL hZ hn hlen hle hK hY hm
    go_upto_region 14 with (first
      | (refine load_blk_w rfl _ rfl C rfl _ HB4.out.blk ?_)
      | (go_at_call 15; (with_reducible refine (HPT.out _).mono ?_); rintro e w10 ⟨rfl, hb10⟩; have HB5 := Lib.hid (HB4.out.below hb10); have HC5 := Lib.hid (HC8b.out.below hb10); clear HB4 HC8b)
      | (refine load_blk_w rfl _ rfl C rfl _ HB5.out.blk ?_)
      | (go_at_call 8; (with_reducible refine (HM2.out _).mono ?_); rintro e w11 ⟨rfl, hb11⟩; have HB6 := Lib.hid (HB5.out.below hb11); have HC6 := Lib.hid (HC5.out.below hb11); clear HB5 HC5))
    clear hb10 hb11 HM2 HPT
    go_upto_region 16 with (first
      | (refine load_blk_w rfl _ rfl C rfl _ HB6.out.blk ?_)
      | (go_at_call 16; (with_reducible refine (HPH.out _).mono ?_); rintro e w12 ⟨rfl, hb12⟩; have HB7 := Lib.hid (HB6.out.below hb12); have HC7 := Lib.hid (HC6.out.below hb12); have c2 := HB7.out.blk.cell 2 (.int .i64 Y) (by rw [← HY.out]; rfl); have c6 := HB7.out.blk.cell 6 (.int .i64 h.type) rfl; have c7 := HB7.out.blk.cell 7 (.bool h.x) rfl)
      | (go_at_call 11; (with_reducible refine (HZ1.out _).mono ?_); rintro e w8 ⟨rfl, rfl⟩))
    clear hb12 HB6 HC6 HPH HZ1 HZ2 c6 c7
    go_upto_region 17 with (at_make; refine wp_zeros rfl _ _ rfl _ _ _ _ K rfl rfl HK.out (by omega) ?_; rintro w13 H rfl hb13 hcv; rw [HZS.out] at hcv; have HB8 := Lib.hid (HB7.out.below hb13); have HC8d := Lib.hid (HC7.out.below hb13))
    clear c2 hb13 hcv HB7 HC7 HZS HK
    by_cases hA : Z + (K : Int) < 4 * Y
    · have eA : decide (Z + (K : Int) < 4 * Y) = true := decide_eq_true hA
      rw [if_pos hA] at HFL
      have HG4 : Hid (∀ W, Calls Tryz.prog 13 #[.string (bs ++ zs)] W fun e w' => e = .returned (.tuple #[Hd.zero.val, .int .i64 4]) ∧ Below W.heap.size W w') := Lib.hid (by
        have hgot : gotHd L = Hd.zero := by unfold gotHd; rw [HFL.out]; rfl
        have := HG3.out
        rwa [hgot, HFL.out] at this)
      clear hA HG3 HFL HGL
      go_upto_region 18 with (first
        | (go_at_call 13; (with_reducible refine (HG4.out _).mono ?_); rintro e w14 ⟨rfl, hb14⟩; have HB9 := Lib.hid (HB8.out.below hb14); have HC9 := Lib.hid (HC8d.out.below hb14))
        | (refine store_blk rfl _ _ rfl C8 G Hd.zero rfl rfl HC9.out ?_; intro W4 hc4 hg4))
      have HBX : Hid (HSt w h C W4) := Lib.hid (HB9.out.grown hg4 (by have := H8C.out; omega) H8C.out.2)
      have c2 := HBX.out.blk.cell 2 (.int .i64 Y) (by rw [← HY.out]; rfl)
      have HCX := Lib.hid hc4
      clear hc4 hg4 hb14 HB9 HC9 HB8 HC8d
      go_wp2_with fail
      go_ret
      exact ⟨rfl, HBX.out.bel⟩
    · have eA : decide (Z + (K : Int) < 4 * Y) = false := decide_eq_false hA
      rw [if_neg hA] at HFL
      have HG4 : Hid (∀ W, Calls Tryz.prog 13 #[.string (bs ++ zs)] W fun e w' => e = .returned (.tuple #[h.val, .int .i64 0]) ∧ Below W.heap.size W w') := Lib.hid (by
        have hgot : gotHd L = h := by unfold gotHd; rw [HFL.out]; exact HGL.out
        have := HG3.out
        rwa [hgot, HFL.out] at this)
      clear hA HG3 HFL HGL
      go_upto_region 18 with (first
        | (go_at_call 13; (with_reducible refine (HG4.out _).mono ?_); rintro e w14 ⟨rfl, hb14⟩; have HB9 := Lib.hid (HB8.out.below hb14); have HC9 := Lib.hid (HC8d.out.below hb14))
        | (refine store_blk rfl _ _ rfl C8 G h rfl rfl HC9.out ?_; intro W4 hc4 hg4))
      have HBX : Hid (HSt w h C W4) := Lib.hid (HB9.out.grown hg4 (by have := H8C.out; omega) H8C.out.2)
      have c2 := HBX.out.blk.cell 2 (.int .i64 Y) (by rw [← HY.out]; rfl)
      have HCX := Lib.hid hc4
      clear hc4 hg4 hb14 HB9 HC9 HB8 HC8d
      have hne : ∀ W, (binOp .eql 26 h.val h.val).run Tryz.prog W = .ok (.bool true) W := fun W => by have := eqlHd h h W; rwa [eqB_refl] at this
      have hgz := fun op x y w => guardHd2 op x y h h w
      go_wp2_with (first
        | (refine load_blk_w rfl _ rfl C8 rfl _ HCX.out ?_)
        | (refine load_blk_w rfl _ rfl C rfl _ HBX.out.blk ?_))
      go_ret
      exact ⟨rfl, HBX.out.bel⟩
  · have hm' : h.mayB = false := by simpa using hm
    have HPT := Lib.hid (fun w => put_no h w hm' q1 q2)
    rw [show str [] = ⟨#[]⟩ from rfl] at HPT
    rw [hm'] at HM2
    clear hm hm'
    go_wp2_with (first
      | (refine load_blk_w rfl _ rfl C rfl _ HB4.out.blk ?_)
      | (go_at_call 15; (with_reducible refine (HPT.out _).mono ?_); rintro e w10 ⟨rfl, hb10⟩; have HB5 := Lib.hid (HB4.out.below hb10); clear HB4)
      | (refine load_blk_w rfl _ rfl C rfl _ HB5.out.blk ?_)
      | (go_at_call 8; (with_reducible refine (HM2.out _).mono ?_); rintro e w11 ⟨rfl, hb11⟩))
    go_ret
    exact ⟨rfl, bel_trans HB5.out.bel hb11⟩
end Go.Proofs.YtcdhllajdpalaaaGreatDoor
