/-
  What head.Put answers.
-/
import Derived.Test.YtdlpapchjjbplaaGreatDoorHeadE
import Derived.Laws.MakeOwn
namespace Go.Proofs.YtdlpapchjjbplaaGreatDoor
open Go.ChangeShapes Go.WideShapes Go.ChangeAt Go.RowKit
set_option linter.unusedVariables false

theorem or_half : ∀ a b : Fin 16, bits .or .i64 ((a.val : Int) * 16) (b.val : Int) = ((a.val * 16 + b.val : Nat) : Int) := by decide +kernel
theorem or_halves (a b : Nat) (ha : a ≤ 15) (hb : b ≤ 15) : bits .or .i64 ((a : Int) * 16) (b : Int) = ((a * 16 + b : Nat) : Int) := or_half ⟨a, by omega⟩ ⟨b, by omega⟩

/-- Bytes that have been appended since the world w0, at whose block g they began. -/
structure St (w0 : World) (g : Nat) (l : List UInt8) (g1 cap1 : Nat) (wx : World) : Prop where
  row : rowAt wx g1 cap1 l
  grown : w0.grownBy wx (some g)
  place : g1 = g ∨ w0.heap.size ≤ g1

theorem St.next {w0 wx w2 : World} {g g1 cap1 g2 cap2 : Nat} {l l2 : List UInt8} (s : St w0 g l g1 cap1 wx) (hr : rowAt w2 g2 cap2 l2) (hb : wx.grownBy w2 (some g1)) (ho : g2 = g1 ∨ wx.heap.size ≤ g2) : St w0 g l2 g2 cap2 w2 := by
  refine ⟨hr, s.grown.andThen hb ?_, ?_⟩
  · intro j hj
    cases hj
    rcases s.place with h | h
    · exact .inr (by rw [h])
    · exact .inl h
  · have := s.grown.size
    have := s.place
    omega

theorem put_st {w0 wx : World} {g g1 cap1 : Nat} {l : List UInt8} (k n : Nat) (s : St w0 g l g1 cap1 wx) (hn : n < 18446744073709551616) (hk : k ≤ 8) (hl : l.length ≤ 4096) :
    Calls Tryz.prog 67 #[.slice (some ⟨g1, 0, none⟩) l.length cap1, .int .i64 k, .int .u64 n] wx fun e w' => ∃ g2 cap2, e = .returned (.slice (some ⟨g2, 0, none⟩) (l ++ beBytes k n).length cap2) ∧ St w0 g (l ++ beBytes k n) g2 cap2 w' :=
  (put_any g1 cap1 l k n wx s.row hn hk hl).mono fun e w' ⟨g2, cap2, he, hr, hb, ho⟩ => ⟨g2, cap2, he, s.next hr hb ho⟩

/-- The head h lies at the head of block B. -/
def HdAt (h : Hd) (B : Nat) (w : World) : Prop :=
  w.cell? ⟨B, 0, none⟩ = some (.int .i64 h.src) ∧ w.cell? ⟨B, 1, none⟩ = some (.int .i64 h.dst) ∧ w.cell? ⟨B, 2, none⟩ = some (.int .i64 h.off) ∧ w.cell? ⟨B, 3, none⟩ = some (.int .i64 h.cc) ∧ w.cell? ⟨B, 4, none⟩ = some (.int .i64 h.cs)
  ∧ w.cell? ⟨B, 5, none⟩ = some (.int .i64 h.sum) ∧ w.cell? ⟨B, 6, none⟩ = some (.int .i64 h.type) ∧ w.cell? ⟨B, 7, none⟩ = some (.bool h.x) ∧ w.cell? ⟨B, 8, none⟩ = some (.int .u64 h.seq) ∧ w.cell? ⟨B, 9, none⟩ = some (.int .u64 h.ack)
  ∧ w.cell? ⟨B, 10, none⟩ = some (.int .u32 h.service) ∧ w.cell? ⟨B, 11, none⟩ = some (.int .i64 h.code) ∧ w.cell? ⟨B, 12, none⟩ = some (.int .u8 h.i0) ∧ w.cell? ⟨B, 13, none⟩ = some (.int .u8 h.i1) ∧ w.cell? ⟨B, 14, none⟩ = some (.int .u8 h.i2)

theorem HdAt.of_cells {h : Hd} {B : Nat} {w w' : World} (a : HdAt h B w) (hc : ∀ o, w'.cell? ⟨B, o, none⟩ = w.cell? ⟨B, o, none⟩) : HdAt h B w' := by
  unfold HdAt at *; simp only [hc]; exact a
theorem HdAt.st {h : Hd} {B : Nat} {w0 wx : World} {g g1 cap1 : Nat} {l : List UInt8} (a : HdAt h B w0) (s : St w0 g l g1 cap1 wx) (hB : B < w0.heap.size) (hne : B ≠ g) : HdAt h B wx :=
  a.of_cells fun o => s.grown.cell_far ⟨B, o, none⟩ hB (by simp; exact hne)
theorem hdAt_box (h : Hd) (w : World) : HdAt h w.heap.size (w.alloc h.box) := by
  unfold HdAt Hd.box; simp

def typeN (t : Nat) (x : Bool) : Nat := t * 2 + if x = true then 1 else 0
theorem typeN_le (t : Nat) (x : Bool) (h : t ≤ 9) : typeN t x ≤ 19 := by unfold typeN; split <;> omega
theorem typeByteN_any (t : Nat) (x : Bool) (h : t ≤ 9) (w : World) :
    Calls Tryz.prog 68 #[.int .i64 t, .bool x] w fun e w' => e = .returned (.int .i64 (typeN t x)) ∧ w = w' := by
  refine (typeByte_any t x (by omega) (by omega) w).mono fun e w' ⟨h1, h2⟩ => ⟨?_, h2⟩
  rw [h1]
  exact M.ret_int (by unfold typeN; split <;> simp)

/-- The slice's bytes as a text. -/
theorem convert_row {w : World} {g cap : Nat} {l : List UInt8} (h : rowAt w g cap l) : (convert 34 9 (.slice (some ⟨g, 0, none⟩) l.length cap)).run Tryz.prog w = .ok (.string (str l)) w := by
  refine run_convert_bytes_back w 34 9 5 ⟨g, 0, none⟩ cap l Tryz.underlying34 Tryz.underlying5 Tryz.underlying9 (fun j hj => ?_)
  obtain ⟨h1, h2⟩ := h
  rcases h2 with ⟨h2, _⟩ | ⟨g2, cap2, cur, h2, h3, h4, h5, h6, h7, h8⟩
  · cases h2
  · cases h2
    have e := cell_of_row w g (0 + j) cur _ _ h4
    rw [show (⟨g, 0, none⟩ : Addr).add j = ⟨g, 0 + j, none⟩ from by simp [Addr.add]; exact fun h => h.symm, e, Nat.zero_add]
    rw [Nat.mul_one] at h8
    have h9 : cur.toList[j]? = (l.map byteV)[j]? := by
      rw [← h8, List.getElem?_take_of_lt hj]
    rw [← Array.getElem?_toList, h9]
    simp [hj, byteV]

theorem mayB_bounds {h : Hd} (hm : h.mayB = true) : (0 ≤ h.src ∧ h.src ≤ 65535) ∧ (0 ≤ h.dst ∧ h.dst ≤ 65535) ∧ (0 ≤ h.off ∧ h.off ≤ 255) ∧ (0 ≤ h.cc ∧ h.cc ≤ 15) ∧ (0 ≤ h.cs ∧ h.cs ≤ 15) ∧ (0 ≤ h.sum ∧ h.sum ≤ 65535) ∧ (0 ≤ h.type ∧ h.type ≤ 9) ∧ (codeB h.type = true → 0 ≤ h.code ∧ h.code ≤ 255) := by
  unfold Hd.mayB at hm
  simp only [Bool.and_eq_true, btw_true, decide_eq_true_eq] at hm
  obtain ⟨m0, m1, m2, m3, m4, m5, m6, m7, m8⟩ := hm
  refine ⟨m1, m2, ⟨by omega, m3.2⟩, m4, m5, m6, ?_, ?_⟩
  · rcases type_cases h.type with h' | h' | h'
    · exact absurd (sizeN_out h.x (.inl h')) m0
    · exact absurd (sizeN_out h.x (.inr h')) m0
    · omega
  · intro hc
    unfold Hd.extrasB at m8
    rw [if_pos hc, Bool.and_eq_true, btw_true] at m8
    exact m8.2

/-- A head as bytes. -/
def Hd.bytes (h : Hd) : List UInt8 :=
  beBytes 2 h.src.toNat ++ beBytes 2 h.dst.toNat ++ beBytes 1 h.off.toNat ++ beBytes 1 (h.cc.toNat * 16 + h.cs.toNat) ++ beBytes 2 h.sum.toNat ++ beBytes 1 (typeN h.type.toNat h.x) ++ (h.seqBytes ++ h.ackBytes) ++ h.extraBytes

theorem put_no (h : Hd) (w : World) (hm : h.mayB = false) (h1 : h.seq < 18446744073709551616) (h2 : h.ack < 18446744073709551616) :
    Calls Tryz.prog 31 #[h.val] w fun e w' => e = .returned (.string (str [])) ∧ Below w.heap.size w w' := by
  have HM := Lib.hid (fun w => may_any h w h1 h2)
  rw [hm] at HM
  clear hm
  unfold Hd.val at HM ⊢
  go_enter Tryz.func31, Tryz.ntmps31
  go_wp2_with fail
  refine (HM.out _).mono ?_
  rintro e w1 ⟨rfl, hb1⟩
  go_wp2
  go_ret
  exact ⟨rfl, bel_trans (bel_alloc _ _) hb1⟩

set_option maxRecDepth 100000 in
set_option maxHeartbeats 4000000 in
theorem put_yes (h : Hd) (w : World) (hm : h.mayB = true) (h1 : h.seq < 18446744073709551616) (h2 : h.ack < 18446744073709551616) (h3 : h.service < 4294967296) (h4 : h.i0 < 256) (h5 : h.i1 < 256) (h6 : h.i2 < 256) :
    Calls Tryz.prog 31 #[h.val] w fun e w' => e = .returned (.string (str h.bytes)) ∧ Below w.heap.size w w' := by
  have HM := Lib.hid (fun w => may_any h w h1 h2)
  obtain ⟨m1, m2, m3, m4, m5, m6, m7, m8⟩ := mayB_bounds hm
  rw [hm] at HM
  clear hm
  obtain ⟨s, es⟩ := Int.eq_ofNat_of_zero_le m1.1
  obtain ⟨d, ed⟩ := Int.eq_ofNat_of_zero_le m2.1
  obtain ⟨o, eo⟩ := Int.eq_ofNat_of_zero_le m3.1
  obtain ⟨c, ec⟩ := Int.eq_ofNat_of_zero_le m4.1
  obtain ⟨k, ek⟩ := Int.eq_ofNat_of_zero_le m5.1
  obtain ⟨u, eu⟩ := Int.eq_ofNat_of_zero_le m6.1
  obtain ⟨t, et⟩ := Int.eq_ofNat_of_zero_le m7.1
  have bs : s ≤ 65535 := by omega
  have bd : d ≤ 65535 := by omega
  have bo : o ≤ 255 := by omega
  have bc : c ≤ 15 := by omega
  have bk : k ≤ 15 := by omega
  have bu : u ≤ 65535 := by omega
  have bt : t ≤ 9 := by omega
  have btn := typeN_le t h.x bt
  have HBY : Hid (h.bytes = beBytes 2 s ++ beBytes 2 d ++ beBytes 1 o ++ beBytes 1 (c * 16 + k) ++ beBytes 2 u ++ beBytes 1 (typeN t h.x) ++ (h.seqBytes ++ h.ackBytes) ++ h.extraBytes) := Lib.hid (by unfold Hd.bytes; rw [es, ed, eo, ec, ek, eu, et]; rfl)
  have HOR := or_halves c k bc bk
  have ES := Lib.hid es; have ED := Lib.hid ed; have EO := Lib.hid eo; have EC := Lib.hid ec; have EK := Lib.hid ek; have EU := Lib.hid eu; have ET := Lib.hid et
  have M8 := Lib.hid m8
  clear es ed eo ec ek eu et m1 m2 m3 m4 m5 m6 m7 m8
  have HBOX := Lib.hid (hdAt_box h w)
  have HV : Hid (h.val = .agg #[.int .i64 h.src, .int .i64 h.dst, .int .i64 h.off, .int .i64 h.cc, .int .i64 h.cs, .int .i64 h.sum, .int .i64 h.type, .bool h.x, .int .u64 h.seq, .int .u64 h.ack, .int .u32 h.service, .int .i64 h.code, .int .u8 h.i0, .int .u8 h.i1, .int .u8 h.i2]) := Lib.hid rfl
  unfold Hd.val at HM ⊢
  go_enter Tryz.func31, Tryz.ntmps31
  go_wp2_with fail
  refine (HM.out _).mono ?_
  rintro e w1 ⟨rfl, hb1⟩
  have hat1 : HdAt h w.heap.size w1 := HBOX.out.of_cells fun o => hb1.cell (p := ⟨w.heap.size, o, none⟩) (by simp)
  have hs1 := hb1.size
  simp at hs1
  have c6 := hat1.2.2.2.2.2.2.1
  have c7 := hat1.2.2.2.2.2.2.2.1
  have HB1 := Lib.hid (bel_trans (bel_alloc _ _) hb1); have HAT1 := Lib.hid hat1
  clear hb1 hat1
  have hsz := sizeN_le h.type h.x
  have HSZ := Lib.hid (fun w => size_any h.type h.x w)
  generalize sizeN h.type h.x = n at *
  obtain ⟨i0, hi, hz0, hz1, hz2⟩ := info_parts infoU8
  obtain ⟨w2, hmk, hown2, hgr2⟩ := run_make_own (P := Tryz.prog) w1 0 34 5 i0 (.int .u8 0) 1 Tryz.underlying34 hi hz0 hz1 .i64 .i64 n (by rw [hz2]; omega) (by unfold maxLen; omega) (Nat.zero_le _)
  have hat2 : HdAt h w.heap.size w2 := HAT1.out.of_cells fun o => hgr2.cell_far ⟨w.heap.size, o, none⟩ (by simp; omega) (by simp)
  have hst2 : St w2 w1.heap.size [] w1.heap.size n w2 := ⟨hown2, World.grownBy.refl _ _, .inl rfl⟩
  have hB : w.heap.size < w2.heap.size := by have := hgr2.size; omega
  have HBW := Lib.hid (HB1.out.trans (Below.refl w.heap.size w1 |>.grown hgr2 (Nat.le_trans (Nat.le_succ _) hs1) (fun k hk => by cases hk)))
  have HAT2 := Lib.hid hat2
  have d0 := hat2.1
  rw [ES.out] at d0
  clear hown2 hgr2 hat2 hi hz0 hz1 hz2
  have HST2 := Lib.hid hst2; clear hst2
  go_wp2_with (first
    | (go_at_call 27; refine (HSZ.out _).mono ?_; rintro e w' ⟨rfl, rfl⟩))
  refine (put_st 2 s HST2.out (by omega) (by omega) (by simp)).mono ?_
  rintro e w3 ⟨g3, cap3, rfl, st3⟩
  have hat3 := HAT2.out.st st3 hB (by omega)
  have d1 := hat3.2.1
  rw [ED.out] at d1
  have HST3 := Lib.hid st3; have HAT3 := Lib.hid hat3; clear st3 hat3
  go_wp2_with fail
  refine (put_st 2 d HST3.out (by omega) (by omega) (by simp [beBytes_length])).mono ?_
  rintro e w4 ⟨g4, cap4, rfl, st4⟩
  have hat4 := HAT2.out.st st4 hB (by omega)
  have d2 := hat4.2.2.1
  rw [EO.out] at d2
  have HST4 := Lib.hid st4; have HAT4 := Lib.hid hat4; clear st4 hat4
  go_wp2_with fail
  refine (put_st 1 o HST4.out (by omega) (by omega) (by simp [beBytes_length])).mono ?_
  rintro e w5 ⟨g5, cap5, rfl, st5⟩
  have hat5 := HAT2.out.st st5 hB (by omega)
  have d3 := hat5.2.2.2.1
  have d4 := hat5.2.2.2.2.1
  rw [EC.out] at d3
  rw [EK.out] at d4
  have HST5 := Lib.hid st5; have HAT5 := Lib.hid hat5; clear st5 hat5
  go_wp2_with fail
  refine (put_st 1 (c * 16 + k) HST5.out (by omega) (by omega) (by simp [beBytes_length])).mono ?_
  rintro e w6 ⟨g6, cap6, rfl, st6⟩
  have hat6 := HAT2.out.st st6 hB (by omega)
  have d5 := hat6.2.2.2.2.2.1
  rw [EU.out] at d5
  have HST6 := Lib.hid st6; have HAT6 := Lib.hid hat6; clear st6 hat6
  go_wp2_with fail
  refine (put_st 2 u HST6.out (by omega) (by omega) (by simp [beBytes_length])).mono ?_
  rintro e w7 ⟨g7, cap7, rfl, st7⟩
  have hat7 := HAT2.out.st st7 hB (by omega)
  have d6 := hat7.2.2.2.2.2.2.1
  have d7 := hat7.2.2.2.2.2.2.2.1
  rw [ET.out] at d6
  have HST7 := Lib.hid st7; have HAT7 := Lib.hid hat7; clear st7 hat7
  go_wp2_with (first
    | (go_at_call 68; refine (typeByteN_any t h.x bt _).mono ?_; rintro e w' ⟨rfl, rfl⟩))
  generalize typeN t h.x = tn at *
  refine (put_st 1 tn HST7.out (by omega) (by omega) (by simp [beBytes_length])).mono ?_
  rintro e w8 ⟨g8, cap8, rfl, st8⟩
  have hat8 := HAT2.out.st st8 hB (by omega)
  have HST8 := Lib.hid st8; have HAT8 := Lib.hid hat8; clear st8 hat8
  have hl8 : ([] ++ beBytes 2 s ++ beBytes 2 d ++ beBytes 1 o ++ beBytes 1 (c * 16 + k) ++ beBytes 2 u ++ beBytes 1 tn).length ≤ 100 := by simp [beBytes_length]
  generalize hL8 : [] ++ beBytes 2 s ++ beBytes 2 d ++ beBytes 1 o ++ beBytes 1 (c * 16 + k) ++ beBytes 2 u ++ beBytes 1 tn = L8 at *
  have HL8 := Lib.hid hL8; clear hL8 HOR
  obtain ⟨d0, d1, d2, d3, d4, d5, d6, d7, d8, d9, d10, d11, d12, d13, d14⟩ := HAT8.out
  have HPN := Lib.hid (fun w (hr : rowAt w g8 cap8 L8) => putNumbers_any h g8 cap8 L8 w hr h1 h2 (by omega))
  rw [HV.out] at HPN
  go_wp2_with fail
  refine (HPN.out _ HST8.out.row).mono ?_
  rintro e w9 ⟨g9, cap9, rfl, hr9, hb9, ho9⟩
  have st9 := HST8.out.next hr9 hb9 ho9
  have hat9 := HAT2.out.st st9 hB (by omega)
  have HST9 := Lib.hid st9
  clear hr9 hb9 ho9 st9 d0 d1 d2 d3 d4 d5 d6 d7 d8 d9 d10 d11 d12 d13 d14
  obtain ⟨d0, d1, d2, d3, d4, d5, d6, d7, d8, d9, d10, d11, d12, d13, d14⟩ := hat9
  have hl9 : (L8 ++ (h.seqBytes ++ h.ackBytes)).length ≤ 200 := by
    have := seqBytes_le h
    have : h.ackBytes.length ≤ 8 := by
      unfold Hd.ackBytes; split
      · rw [beBytes_length]; exact (pads_le h.x).2
      · simp
    simp; omega
  generalize hL9 : L8 ++ (h.seqBytes ++ h.ackBytes) = L9 at *
  have HL9 := Lib.hid hL9; clear hL9
  have HPE := Lib.hid (fun w (hr : rowAt w g9 cap9 L9) => putExtras_any h g9 cap9 L9 w hr h3 h4 h5 h6 M8.out (by omega))
  rw [HV.out] at HPE
  go_wp2_with fail
  refine (HPE.out _ HST9.out.row).mono ?_
  rintro e w10 ⟨g10, cap10, rfl, hr10, hb10, ho10⟩
  have st10 := HST9.out.next hr10 hb10 ho10
  have hconv := convert_row st10.row
  have HST10 := Lib.hid st10
  clear hr10 hb10 ho10 st10 d0 d1 d2 d3 d4 d5 d6 d7 d8 d9 d10 d11 d12 d13 d14
  generalize hL10 : L9 ++ h.extraBytes = L10 at *
  have HL10 := Lib.hid hL10; clear hL10
  go_wp2
  go_ret
  refine ⟨ret_str (by rw [HBY.out, ← HL10.out, ← HL9.out, ← HL8.out]; simp), ?_⟩
  have hg := HST10.out.grown
  exact HBW.out.trans ((Below.refl w.heap.size w2).grown hg (by omega) (fun k hk => by cases hk; omega))
end Go.Proofs.YtdlpapchjjbplaaGreatDoor
