/-
  The law HeadSizes, walked.
-/
import Derived.Test.YtdlpapchjjbplaaGreatDoorLawSum
import Derived.Test.YtdlpapchjjbplaaGreatDoorRefHead
import Derived.Test.YtdlpapchjjbplaaGreatDoorRefOpt
import Derived.Test.YtdlpapchjjbplaaGreatDoorPktE
import Derived.Deep.QuietTactic
import Derived.BigQuiet
namespace Go.Proofs.YtdlpapchjjbplaaGreatDoor
open Go.ChangeShapes Go.WideShapes Go.ChangeAt Go.RowKit
set_option linter.unusedVariables false

theorem sizeN_zero {t : Int} (h2 : t ≠ 2) (h3 : t ≠ 3) (h4 : t ≠ 4) : sizeN t false = 0 := by
  unfold sizeN
  rcases type_cases t with h' | h' | h' | h' | h' | h' | h' | h' | h' | h' | h' | h'
  · rw [if_pos (.inl h')]
  · rw [if_pos (.inr h')]
  all_goals (subst h'; first | decide | exact absurd rfl h2 | exact absurd rfl h3 | exact absurd rfl h4)
theorem sizeN_pos {t : Int} (x : Bool) (h0 : 0 ≤ t) (h9 : t ≤ 9) (hx : x = true ∨ t = 2 ∨ t = 3 ∨ t = 4) : sizeN t x ≠ 0 := by
  rcases type_cases t with h' | h' | h' | h' | h' | h' | h' | h' | h' | h' | h' | h'
  · omega
  · omega
  all_goals (subst h'; cases x <;> first | decide | (simp at hx))

/-- A head of which only the type and the numbers are asked. -/
def hdS (T : Int) (x : Bool) (s a : Nat) : Hd := ⟨258, 772, 70, 0, 0, 0, T, x, s, a, 0, 0, 0, 0, 0⟩
theorem hdS_may (T : Int) (x : Bool) (s a : Nat) (h0 : 0 ≤ T) (h9 : T ≤ 9) (hx : x = true ∨ T = 2 ∨ T = 3 ∨ T = 4) (hs : s < mostN x) (ha : a < mostN x) (hk : hasAckB T = true ∨ a = 0) : (hdS T x s a).mayB = true := by
  rw [mayB_iff]
  have hz := sizeN_pos x h0 h9 hx
  have hl := sizeN_le T x
  refine ⟨hz, ⟨by show (0 : Int) ≤ 258; decide, by show (258 : Int) ≤ 65535; decide⟩, ⟨by show (0 : Int) ≤ 772; decide, by show (772 : Int) ≤ 65535; decide⟩, ⟨by show ((sizeN T x : Nat) : Int) / 4 ≤ 70; omega, by show (70 : Int) ≤ 255; decide⟩, ⟨by show (0 : Int) ≤ 0; decide, by show (0 : Int) ≤ 15; decide⟩, ⟨by show (0 : Int) ≤ 0; decide, by show (0 : Int) ≤ 15; decide⟩, ⟨by show (0 : Int) ≤ 0; decide, by show (0 : Int) ≤ 65535; decide⟩, ⟨hk, hs, ha⟩, .inr rfl, ?_⟩
  cases hc : codeB T with
  | true => exact .inl ⟨hc, by show (0 : Int) ≤ 0; decide, by show (0 : Int) ≤ 255; decide⟩
  | false => exact .inr ⟨hc, rfl, rfl, rfl, rfl⟩
theorem hdS_ok (T : Int) (x : Bool) (s a : Nat) (hs : s < mostN x) (ha : a < mostN x) : (hdS T x s a).ok := by
  have : mostN x ≤ 281474976710656 := by unfold mostN; split <;> omega
  exact ⟨by show s < _; omega, by show a < _; omega, by show (0 : Nat) < _; decide, by show (0 : Nat) < _; decide, by show (0 : Nat) < _; decide, by show (0 : Nat) < _; decide⟩
theorem hdS_bytes (T : Int) (x : Bool) (s a : Nat) : (hdS T x s a).bytes = 1 :: 2 :: 3 :: 4 :: 70 :: 0 :: 0 :: 0 :: UInt8.ofNat (typeN T.toNat x % 256) :: (beBytes (seqPad x + numLen x) s ++ ((hdS T x s a).ackBytes ++ (hdS T x s a).extraBytes)) := by
  have e1 : (hdS T x s a).nine = [1, 2, 3, 4, 70, 0, 0, 0, UInt8.ofNat (typeN T.toNat x % 256)] := by
    simp [Hd.nine, hdS]
  rw [bytes_nine, e1]
  rfl
/-- What stands where. -/
theorem hdS_at (T : Int) (x : Bool) (s a : Nat) (h0 : 0 ≤ T) (h9 : T ≤ 9) : let l := (hdS T x s a).bytes
    M.bAt l 0 = 1 ∧ M.bAt l 1 = 2 ∧ M.bAt l 2 = 3 ∧ M.bAt l 3 = 4 ∧ M.bAt l 4 = 70 ∧ M.bAt l 8 = typeN T.toNat x := by
  intro l
  have ht := typeN_le T.toNat x (by omega)
  have e : l = _ := hdS_bytes T x s a
  rw [e]
  refine ⟨rfl, rfl, rfl, rfl, rfl, ?_⟩
  show (UInt8.ofNat (typeN T.toNat x % 256)).toNat = _
  rw [ofNat_byte]; omega
theorem hdS_long (T : Int) (s a : Nat) (hs : s < 281474976710656) : let l := (hdS T true s a).bytes
    M.bAt l 9 = 0 ∧ beNum ((l.take 16).drop 10) = s ∧ 16 ≤ l.length ∧ ((l.take 16).drop 10).length = 6 := by
  intro l
  have e : l = _ := hdS_bytes T true s a
  have hl : 16 ≤ l.length := by rw [e]; simp [beBytes_length, seqPad, numLen] <;> omega
  have e2 : (l.take 16).drop 10 = ((beBytes (1 + 6) s ++ ((hdS T true s a).ackBytes ++ (hdS T true s a).extraBytes)).drop 1).take 6 := by
    rw [e, List.drop_take]; rfl
  refine ⟨?_, ?_, hl, by rw [List.length_drop, List.length_take]; omega⟩
  · rw [e]
    show (UInt8.ofNat (s / 256 ^ 6 % 256)).toNat = 0
    rw [ofNat_byte]; omega
  · rw [e2]
    exact num_part 1 6 s _ (by omega)
theorem hdS_short (T : Int) (s a : Nat) (hs : s < 16777216) : let l := (hdS T false s a).bytes
    beNum ((l.take 12).drop 9) = s ∧ 12 ≤ l.length ∧ ((l.take 12).drop 9).length = 3 := by
  intro l
  have e : l = _ := hdS_bytes T false s a
  have hl : 12 ≤ l.length := by rw [e]; simp [beBytes_length, seqPad, numLen] <;> omega
  have e2 : (l.take 12).drop 9 = ((beBytes (0 + 3) s ++ ((hdS T false s a).ackBytes ++ (hdS T false s a).extraBytes)).drop 0).take 3 := by
    rw [e, List.drop_take]; rfl
  refine ⟨?_, hl, by rw [List.length_drop, List.length_take]; omega⟩
  rw [e2]
  exact num_part 0 3 s _ (by omega)
theorem slice2h (l : List UInt8) (t u : Nat) (h1 : t ≤ u) (h2 : u ≤ l.length) (W : World) :
    (Instr.slice 9 (.string (str l)) (some (.int .i64 (t : Int))) (some (.int .i64 (u : Int))) none).run Tryz.prog W = .ok (.string (str ((l.take u).drop t))) W := by
  rw [← str_extract, run_slice_string W 9 (str l) .i64 .i64 _ _ Tryz.underlying9 (by omega) (by omega) (by rw [str_size]; omega)]
  rfl
theorem refNumber_q (l : List UInt8) (h8 : l.length ≤ 8) (n : Nat) (hn : beNum l = n) (w : World) :
    Calls Tryz.prog 42 #[.string (str l)] w fun e w' => e = .returned (.int .u64 n) ∧ w' = w := by
  subst hn
  exact (refNumber_any l h8 w).mono fun e w' h => ⟨h.1, h.2.symm⟩
theorem index_lit (l : List UInt8) (k : Nat) (hk : k < l.length) (v : Nat) (hv : M.bAt l k = v) (i c : Int) (hi : i = (k : Int)) (hc : c = (v : Int)) (W : World) :
    (Instr.index 9 (.string (str l)) (.int .i64 i)).run Tryz.prog W = .ok (.int .u8 c) W := by
  rw [hc, ← hv]
  exact index_at l (str l) rfl k hk i hi W
/-- The text of a head, as it is asked for. -/
structure HText (bs : ByteArray) (T : Int) (x : Bool) (S : Nat) (V : Int) : Prop where
  size : (bs.size : Int) = (sizeN T x : Nat)
  i0 : ∀ W, (Instr.index 9 (.string bs) (.int .i64 0)).run Tryz.prog W = .ok (.int .u8 1) W
  i1 : ∀ W, (Instr.index 9 (.string bs) (.int .i64 1)).run Tryz.prog W = .ok (.int .u8 2) W
  i2 : ∀ W, (Instr.index 9 (.string bs) (.int .i64 2)).run Tryz.prog W = .ok (.int .u8 3) W
  i3 : ∀ W, (Instr.index 9 (.string bs) (.int .i64 3)).run Tryz.prog W = .ok (.int .u8 4) W
  i4 : ∀ W, (Instr.index 9 (.string bs) (.int .i64 4)).run Tryz.prog W = .ok (.int .u8 70) W
  i8 : ∀ W, (Instr.index 9 (.string bs) (.int .i64 8)).run Tryz.prog W = .ok (.int .u8 V) W
  v0 : 0 ≤ V ∧ V ≤ 19
  v1 : V / 2 = T ∧ V.tdiv 2 = T
  v2 : V % 2 = (if x = true then 1 else 0) ∧ V.tmod 2 = (if x = true then 1 else 0)
  long : x = true → (∀ W, (Instr.index 9 (.string bs) (.int .i64 9)).run Tryz.prog W = .ok (.int .u8 0) W) ∧ ∃ nb, (∀ W, (Instr.slice 9 (.string bs) (some (.int .i64 10)) (some (.int .i64 16)) none).run Tryz.prog W = .ok (.string nb) W) ∧
    ∀ w, Calls Tryz.prog 42 #[.string nb] w fun e w' => e = .returned (.int .u64 S) ∧ w' = w
  short : x = false → ∃ nb, (∀ W, (Instr.slice 9 (.string bs) (some (.int .i64 9)) (some (.int .i64 12)) none).run Tryz.prog W = .ok (.string nb) W) ∧
    ∀ w, Calls Tryz.prog 42 #[.string nb] w fun e w' => e = .returned (.int .u64 S) ∧ w' = w
theorem hdS_text (T : Int) (x : Bool) (S A0 : Nat) (h0 : 0 ≤ T) (h9 : T ≤ 9) (hx : x = true ∨ T = 2 ∨ T = 3 ∨ T = 4) (hS : S < mostN x) (hA : A0 < mostN x) (hk : hasAckB T = true ∨ A0 = 0) :
    ∃ bs V, HText bs T x S V ∧ ∀ w, Calls Tryz.prog 31 #[(hdS T x S A0).val] w fun e w' => e = .returned (.string bs) ∧ Below w.heap.size w w' := by
  have hmay := hdS_may T x S A0 h0 h9 hx hS hA hk
  obtain ⟨q1, q2, q3, q4, q5, q6⟩ := hdS_ok T x S A0 hS hA
  have hlen : (hdS T x S A0).bytes.length = sizeN T x := bytes_len hmay
  obtain ⟨j0, j1, j2, j3, j4, j8⟩ := hdS_at T x S A0 h0 h9
  have h12 : 12 ≤ (hdS T x S A0).bytes.length := by rw [hdS_bytes]; cases x <;> (simp [beBytes_length, seqPad, numLen]; try omega)
  have hty : (typeN T.toNat x : Int) = T * 2 + if x = true then 1 else 0 := by unfold typeN; cases x <;> simp <;> omega
  refine ⟨_, (typeN T.toNat x : Int), ⟨?_, index_lit _ 0 (by omega) _ j0 _ _ rfl rfl, index_lit _ 1 (by omega) _ j1 _ _ rfl rfl, index_lit _ 2 (by omega) _ j2 _ _ rfl rfl, index_lit _ 3 (by omega) _ j3 _ _ rfl rfl, index_lit _ 4 (by omega) _ j4 _ _ rfl rfl, index_lit _ 8 (by omega) _ j8 _ _ rfl rfl, ?_, ?_, ?_, fun hx => ?_, fun hx => ?_⟩, fun w => put_yes (hdS T x S A0) w hmay q1 q2 q3 q4 q5 q6⟩
  · rw [str_size, hlen]
  · rw [hty]; cases x <;> simp <;> omega
  · have : (typeN T.toNat x : Int) / 2 = T := by rw [hty]; cases x <;> simp <;> omega
    exact ⟨this, by rw [Int.tdiv_eq_ediv_of_nonneg (by omega), this]⟩
  · have : (typeN T.toNat x : Int) % 2 = (if x = true then 1 else 0) := by rw [hty]; cases x <;> simp <;> omega
    exact ⟨this, by rw [Int.tmod_eq_emod_of_nonneg (by omega), this]⟩
  · subst hx
    obtain ⟨e0, e1, e2, e3⟩ := hdS_long T S A0 hS
    exact ⟨index_lit _ 9 (by omega) _ e0 _ _ rfl rfl, _, fun W => slice2h _ 10 16 (by omega) e2 W, fun w => refNumber_q _ (by omega) S e1 w⟩
  · subst hx
    obtain ⟨e1, e2, e3⟩ := hdS_short T S A0 hS
    exact ⟨_, fun W => slice2h _ 9 12 (by omega) e2 W, fun w => refNumber_q _ (by omega) S e1 w⟩

set_option maxHeartbeats 8000000 in
set_option maxRecDepth 100000 in
theorem headSizes_l0 (T : Int) (h0 : 0 ≤ T) (h9 : T ≤ 9) (hab : hasAckB T = false) (t k1 : Int) (s a : Nat) (hk1 : t.tmod 10 = k1) (b1 : -10 < k1) (b2 : k1 < 10) (hT : (k1 + 10).tmod 10 = T) (hs : s < 18446744073709551616) (ha : a < 18446744073709551616) (w : World) :
    Calls Tryz.prog 9 #[.int .i64 t, .bool true, .int .u64 s, .int .u64 a] w fun e w' => e = .returned (.bool true) ∧ Below w.heap.size w w' := by
  obtain ⟨S, hS⟩ : ∃ S : Nat, (s : Int) % 281474976710656 = (S : Int) := ⟨s % 281474976710656, by omega⟩
  obtain ⟨A0, hA0⟩ : ∃ S : Nat, (a : Int) % 281474976710656 = (S : Int) := ⟨a % 281474976710656, by omega⟩
  have hmo : mostN true = 281474976710656 := rfl
  obtain ⟨bs, V, HX, hput⟩ := hdS_text T true S 0 (by omega) (by omega) (by simp) (by omega) (by omega) (.inr rfl)
  have HPT := Lib.hid hput
  obtain ⟨z0, i0, i1, i2, i3, i4, i8, v0, ⟨v1, v2⟩, ⟨v3, v4⟩, hlo, hsh⟩ := HX
  have HSZ := Lib.hid (fun w => size_any T true w)
  have hzp := sizeN_pos (t := T) true (by omega) (by omega) (by simp)
  generalize sizeN T true = Z at *
  have HHA : Hid (∀ w : World, Calls Tryz.prog 25 #[.int .i64 T] w fun e w' => e = .returned (.bool false) ∧ w = w') := Lib.hid (fun w => by
    have h := hasAck_any T w
    rw [show hasAckB T = false by first | exact hab | decide] at h
    exact h)
  obtain ⟨i9, nb, hsl, hnum⟩ := hlo rfl
  have HNM := Lib.hid hnum
  rw [if_pos rfl] at v3 v4
  clear hput hmo hzp hlo hsh hnum hab
  go_enter Tryz.func9, Tryz.ntmps9
  go_upto_region 12 with (first
    | (go_at_call 15; refine (begun_any _).mono ?_; rintro e w0 ⟨rfl, hb0⟩)
    | (go_at_call 27; refine (HSZ.out _).mono ?_; rintro e w1 ⟨rfl, rfl⟩)
    | (refine store_blk rfl _ _ rfl _ Hd.zero (hdS T true S 0) rfl rfl (hd_new _) ?_; intro W2 hc2 hg2))
  have hC : w0.heap.size < W2.heap.size := hc2.lt
  have hbW2 : Below w.heap.size w W2 := (bel_trans hb0 (bel_alloc w0 _)).grown hg2 (bel_trans hb0 (bel_alloc w0 _)).size (fun k hk => by cases hk; exact hb0.size)
  have hCw : w.heap.size ≤ w0.heap.size := hb0.size
  generalize w0.heap.size = C at *
  have HB2 := Lib.hid hbW2
  clear hb0 hg2 hbW2
  have hc3 : HdBlk (hdS T true S 0) C W2 := hc2
  have HW3 := HB2
  have hW3 : C < W2.heap.size := hC
  generalize W2 = W3 at *
  have HC3 := Lib.hid hc3
  clear hc2 hc3 HB2 hC
  go_upto_region 15 with (first
    | (go_at_call 25; refine (HHA.out _).mono ?_; rintro e w1 ⟨rfl, rfl⟩)
    | (refine load_blk rfl _ rfl C rfl _ HC3.out ?_)
    | (go_at_call 31; refine (HPT.out _).mono ?_; rintro e w4 ⟨rfl, hb4⟩))
  have hc4 := HC3.out.below hb4
  have d8 : w4.cell? ⟨C, 8, none⟩ = some (.int .u64 S) := hc4.at_.2.2.2.2.2.2.2.2.1
  have HB4 : Hid (Below w.heap.size w w4) := Lib.hid (bel_trans HW3.out hb4)
  clear hc4 hb4 hCw hW3 hS hA0 hk1 hT
  go_upto_region 18 with fail
  clear i0 i1 i2 i3 i4 i8 v1 v2 v3 v4 z0
  go_quiet ((go_at_call 42; exact Calls.quiet_of_same (HNM.out _)))
  go_wp2
  go_ret
  exact ⟨rfl, bel_trans HB4.out (bel_drewN _ _)⟩

set_option maxHeartbeats 8000000 in
set_option maxRecDepth 100000 in
theorem headSizes_l1 (T : Int) (h0 : 0 ≤ T) (h9 : T ≤ 9) (hab : hasAckB T = true) (t k1 : Int) (s a : Nat) (hk1 : t.tmod 10 = k1) (b1 : -10 < k1) (b2 : k1 < 10) (hT : (k1 + 10).tmod 10 = T) (hs : s < 18446744073709551616) (ha : a < 18446744073709551616) (w : World) :
    Calls Tryz.prog 9 #[.int .i64 t, .bool true, .int .u64 s, .int .u64 a] w fun e w' => e = .returned (.bool true) ∧ Below w.heap.size w w' := by
  obtain ⟨S, hS⟩ : ∃ S : Nat, (s : Int) % 281474976710656 = (S : Int) := ⟨s % 281474976710656, by omega⟩
  obtain ⟨A0, hA0⟩ : ∃ S : Nat, (a : Int) % 281474976710656 = (S : Int) := ⟨a % 281474976710656, by omega⟩
  have hmo : mostN true = 281474976710656 := rfl
  obtain ⟨bs, V, HX, hput⟩ := hdS_text T true S A0 (by omega) (by omega) (by simp) (by omega) (by omega) (.inl (by first | exact hab | decide))
  have HPT := Lib.hid hput
  obtain ⟨z0, i0, i1, i2, i3, i4, i8, v0, ⟨v1, v2⟩, ⟨v3, v4⟩, hlo, hsh⟩ := HX
  have HSZ := Lib.hid (fun w => size_any T true w)
  have hzp := sizeN_pos (t := T) true (by omega) (by omega) (by simp)
  generalize sizeN T true = Z at *
  have HHA : Hid (∀ w : World, Calls Tryz.prog 25 #[.int .i64 T] w fun e w' => e = .returned (.bool true) ∧ w = w') := Lib.hid (fun w => by
    have h := hasAck_any T w
    rw [show hasAckB T = true by first | exact hab | decide] at h
    exact h)
  obtain ⟨i9, nb, hsl, hnum⟩ := hlo rfl
  have HNM := Lib.hid hnum
  rw [if_pos rfl] at v3 v4
  clear hput hmo hzp hlo hsh hnum hab
  go_enter Tryz.func9, Tryz.ntmps9
  go_upto_region 12 with (first
    | (go_at_call 15; refine (begun_any _).mono ?_; rintro e w0 ⟨rfl, hb0⟩)
    | (go_at_call 27; refine (HSZ.out _).mono ?_; rintro e w1 ⟨rfl, rfl⟩)
    | (refine store_blk rfl _ _ rfl _ Hd.zero (hdS T true S 0) rfl rfl (hd_new _) ?_; intro W2 hc2 hg2))
  have hC : w0.heap.size < W2.heap.size := hc2.lt
  have hbW2 : Below w.heap.size w W2 := (bel_trans hb0 (bel_alloc w0 _)).grown hg2 (bel_trans hb0 (bel_alloc w0 _)).size (fun k hk => by cases hk; exact hb0.size)
  have hCw : w.heap.size ≤ w0.heap.size := hb0.size
  generalize w0.heap.size = C at *
  have HB2 := Lib.hid hbW2
  clear hb0 hg2 hbW2
  have d9 : W2.cell? ⟨C, 9, none⟩ = some (.int .u64 0) := hc2.at_.2.2.2.2.2.2.2.2.2.1
  have f9 := hc2.free 9
  have hc3 := hc2.set (hdS T true S A0) 9 (.int .u64 (A0 : Int)) rfl
  have hw3 : Below w.heap.size w (W2.setCell ⟨C, 9, none⟩ (.int .u64 (A0 : Int))) := HB2.out.setCell (p := ⟨C, 9, none⟩) hCw _
  have hW3 : C < (W2.setCell ⟨C, 9, none⟩ (.int .u64 (A0 : Int))).heap.size := hc3.lt
  have HC3 := Lib.hid hc3
  have HW3 := Lib.hid hw3
  clear hc2 hc3 hw3 HB2
  go_upto_region 14 with (go_at_call 25; refine (HHA.out _).mono ?_; rintro e w1 ⟨rfl, rfl⟩)
  clear d9 f9 hC
  generalize W2.setCell ⟨C, 9, none⟩ (.int .u64 (A0 : Int)) = W3 at *
  go_upto_region 15 with (first
    | (refine load_blk rfl _ rfl C rfl _ HC3.out ?_)
    | (go_at_call 31; refine (HPT.out _).mono ?_; rintro e w4 ⟨rfl, hb4⟩))
  have hc4 := HC3.out.below hb4
  have d8 : w4.cell? ⟨C, 8, none⟩ = some (.int .u64 S) := hc4.at_.2.2.2.2.2.2.2.2.1
  have HB4 : Hid (Below w.heap.size w w4) := Lib.hid (bel_trans HW3.out hb4)
  clear hc4 hb4 hCw hW3 hS hA0 hk1 hT
  go_upto_region 18 with fail
  clear i0 i1 i2 i3 i4 i8 v1 v2 v3 v4 z0
  go_quiet ((go_at_call 42; exact Calls.quiet_of_same (HNM.out _)))
  go_wp2
  go_ret
  exact ⟨rfl, bel_trans HB4.out (bel_drewN _ _)⟩

set_option maxHeartbeats 8000000 in
set_option maxRecDepth 100000 in
theorem headSizes_s2 (t k1 : Int) (s a : Nat) (hk1 : t.tmod 10 = k1) (b1 : -10 < k1) (b2 : k1 < 10) (hT : (k1 + 10).tmod 10 = 2) (hs : s < 18446744073709551616) (ha : a < 18446744073709551616) (w : World) :
    Calls Tryz.prog 9 #[.int .i64 t, .bool false, .int .u64 s, .int .u64 a] w fun e w' => e = .returned (.bool true) ∧ Below w.heap.size w w' := by
  obtain ⟨S, hS⟩ : ∃ S : Nat, (s : Int) % 16777216 = (S : Int) := ⟨s % 16777216, by omega⟩
  obtain ⟨A0, hA0⟩ : ∃ S : Nat, (a : Int) % 16777216 = (S : Int) := ⟨a % 16777216, by omega⟩
  have hmo : mostN false = 16777216 := rfl
  obtain ⟨bs, V, HX, hput⟩ := hdS_text 2 false S 0 (by omega) (by omega) (by simp) (by omega) (by omega) (.inr rfl)
  have HPT := Lib.hid hput
  obtain ⟨z0, i0, i1, i2, i3, i4, i8, v0, ⟨v1, v2⟩, ⟨v3, v4⟩, hlo, hsh⟩ := HX
  have HSZ := Lib.hid (fun w => size_any 2 false w)
  have hzp := sizeN_pos (t := 2) false (by omega) (by omega) (by simp)
  generalize sizeN 2 false = Z at *
  have HHA : Hid (∀ w : World, Calls Tryz.prog 25 #[.int .i64 2] w fun e w' => e = .returned (.bool false) ∧ w = w') := Lib.hid (fun w => by
    have h := hasAck_any 2 w
    rw [show hasAckB 2 = false by first | exact hab | decide] at h
    exact h)
  obtain ⟨nb, hsl, hnum⟩ := hsh rfl
  have HNM := Lib.hid hnum
  rw [if_neg (by decide)] at v3 v4
  clear hput hmo hzp hlo hsh hnum
  go_enter Tryz.func9, Tryz.ntmps9
  go_upto_region 12 with (first
    | (go_at_call 15; refine (begun_any _).mono ?_; rintro e w0 ⟨rfl, hb0⟩)
    | (go_at_call 27; refine (HSZ.out _).mono ?_; rintro e w1 ⟨rfl, rfl⟩)
    | (refine store_blk rfl _ _ rfl _ Hd.zero (hdS 2 false S 0) rfl rfl (hd_new _) ?_; intro W2 hc2 hg2))
  have hC : w0.heap.size < W2.heap.size := hc2.lt
  have hbW2 : Below w.heap.size w W2 := (bel_trans hb0 (bel_alloc w0 _)).grown hg2 (bel_trans hb0 (bel_alloc w0 _)).size (fun k hk => by cases hk; exact hb0.size)
  have hCw : w.heap.size ≤ w0.heap.size := hb0.size
  generalize w0.heap.size = C at *
  have HB2 := Lib.hid hbW2
  clear hb0 hg2 hbW2
  have hc3 : HdBlk (hdS 2 false S 0) C W2 := hc2
  have HW3 := HB2
  have hW3 : C < W2.heap.size := hC
  generalize W2 = W3 at *
  have HC3 := Lib.hid hc3
  clear hc2 hc3 HB2 hC
  go_upto_region 15 with (first
    | (go_at_call 25; refine (HHA.out _).mono ?_; rintro e w1 ⟨rfl, rfl⟩)
    | (refine load_blk rfl _ rfl C rfl _ HC3.out ?_)
    | (go_at_call 31; refine (HPT.out _).mono ?_; rintro e w4 ⟨rfl, hb4⟩))
  have hc4 := HC3.out.below hb4
  have d8 : w4.cell? ⟨C, 8, none⟩ = some (.int .u64 S) := hc4.at_.2.2.2.2.2.2.2.2.1
  have HB4 : Hid (Below w.heap.size w w4) := Lib.hid (bel_trans HW3.out hb4)
  clear hc4 hb4 hCw hW3 hS hA0 hk1 hT
  go_upto_region 19 with fail
  clear i0 i1 i2 i3 i4 i8 v1 v2 v3 v4 z0
  go_quiet ((go_at_call 42; exact Calls.quiet_of_same (HNM.out _)))
  go_wp2
  go_ret
  exact ⟨rfl, bel_trans HB4.out (bel_drewN _ _)⟩

set_option maxHeartbeats 8000000 in
set_option maxRecDepth 100000 in
theorem headSizes_s3 (t k1 : Int) (s a : Nat) (hk1 : t.tmod 10 = k1) (b1 : -10 < k1) (b2 : k1 < 10) (hT : (k1 + 10).tmod 10 = 3) (hs : s < 18446744073709551616) (ha : a < 18446744073709551616) (w : World) :
    Calls Tryz.prog 9 #[.int .i64 t, .bool false, .int .u64 s, .int .u64 a] w fun e w' => e = .returned (.bool true) ∧ Below w.heap.size w w' := by
  obtain ⟨S, hS⟩ : ∃ S : Nat, (s : Int) % 16777216 = (S : Int) := ⟨s % 16777216, by omega⟩
  obtain ⟨A0, hA0⟩ : ∃ S : Nat, (a : Int) % 16777216 = (S : Int) := ⟨a % 16777216, by omega⟩
  have hmo : mostN false = 16777216 := rfl
  obtain ⟨bs, V, HX, hput⟩ := hdS_text 3 false S A0 (by omega) (by omega) (by simp) (by omega) (by omega) (.inl (by first | exact hab | decide))
  have HPT := Lib.hid hput
  obtain ⟨z0, i0, i1, i2, i3, i4, i8, v0, ⟨v1, v2⟩, ⟨v3, v4⟩, hlo, hsh⟩ := HX
  have HSZ := Lib.hid (fun w => size_any 3 false w)
  have hzp := sizeN_pos (t := 3) false (by omega) (by omega) (by simp)
  generalize sizeN 3 false = Z at *
  have HHA : Hid (∀ w : World, Calls Tryz.prog 25 #[.int .i64 3] w fun e w' => e = .returned (.bool true) ∧ w = w') := Lib.hid (fun w => by
    have h := hasAck_any 3 w
    rw [show hasAckB 3 = true by first | exact hab | decide] at h
    exact h)
  obtain ⟨nb, hsl, hnum⟩ := hsh rfl
  have HNM := Lib.hid hnum
  rw [if_neg (by decide)] at v3 v4
  clear hput hmo hzp hlo hsh hnum
  go_enter Tryz.func9, Tryz.ntmps9
  go_upto_region 12 with (first
    | (go_at_call 15; refine (begun_any _).mono ?_; rintro e w0 ⟨rfl, hb0⟩)
    | (go_at_call 27; refine (HSZ.out _).mono ?_; rintro e w1 ⟨rfl, rfl⟩)
    | (refine store_blk rfl _ _ rfl _ Hd.zero (hdS 3 false S 0) rfl rfl (hd_new _) ?_; intro W2 hc2 hg2))
  have hC : w0.heap.size < W2.heap.size := hc2.lt
  have hbW2 : Below w.heap.size w W2 := (bel_trans hb0 (bel_alloc w0 _)).grown hg2 (bel_trans hb0 (bel_alloc w0 _)).size (fun k hk => by cases hk; exact hb0.size)
  have hCw : w.heap.size ≤ w0.heap.size := hb0.size
  generalize w0.heap.size = C at *
  have HB2 := Lib.hid hbW2
  clear hb0 hg2 hbW2
  have d9 : W2.cell? ⟨C, 9, none⟩ = some (.int .u64 0) := hc2.at_.2.2.2.2.2.2.2.2.2.1
  have f9 := hc2.free 9
  have hc3 := hc2.set (hdS 3 false S A0) 9 (.int .u64 (A0 : Int)) rfl
  have hw3 : Below w.heap.size w (W2.setCell ⟨C, 9, none⟩ (.int .u64 (A0 : Int))) := HB2.out.setCell (p := ⟨C, 9, none⟩) hCw _
  have hW3 : C < (W2.setCell ⟨C, 9, none⟩ (.int .u64 (A0 : Int))).heap.size := hc3.lt
  have HC3 := Lib.hid hc3
  have HW3 := Lib.hid hw3
  clear hc2 hc3 hw3 HB2
  go_upto_region 14 with (go_at_call 25; refine (HHA.out _).mono ?_; rintro e w1 ⟨rfl, rfl⟩)
  clear d9 f9 hC
  generalize W2.setCell ⟨C, 9, none⟩ (.int .u64 (A0 : Int)) = W3 at *
  go_upto_region 15 with (first
    | (refine load_blk rfl _ rfl C rfl _ HC3.out ?_)
    | (go_at_call 31; refine (HPT.out _).mono ?_; rintro e w4 ⟨rfl, hb4⟩))
  have hc4 := HC3.out.below hb4
  have d8 : w4.cell? ⟨C, 8, none⟩ = some (.int .u64 S) := hc4.at_.2.2.2.2.2.2.2.2.1
  have HB4 : Hid (Below w.heap.size w w4) := Lib.hid (bel_trans HW3.out hb4)
  clear hc4 hb4 hCw hW3 hS hA0 hk1 hT
  go_upto_region 19 with fail
  clear i0 i1 i2 i3 i4 i8 v1 v2 v3 v4 z0
  go_quiet ((go_at_call 42; exact Calls.quiet_of_same (HNM.out _)))
  go_wp2
  go_ret
  exact ⟨rfl, bel_trans HB4.out (bel_drewN _ _)⟩

set_option maxHeartbeats 8000000 in
set_option maxRecDepth 100000 in
theorem headSizes_s4 (t k1 : Int) (s a : Nat) (hk1 : t.tmod 10 = k1) (b1 : -10 < k1) (b2 : k1 < 10) (hT : (k1 + 10).tmod 10 = 4) (hs : s < 18446744073709551616) (ha : a < 18446744073709551616) (w : World) :
    Calls Tryz.prog 9 #[.int .i64 t, .bool false, .int .u64 s, .int .u64 a] w fun e w' => e = .returned (.bool true) ∧ Below w.heap.size w w' := by
  obtain ⟨S, hS⟩ : ∃ S : Nat, (s : Int) % 16777216 = (S : Int) := ⟨s % 16777216, by omega⟩
  obtain ⟨A0, hA0⟩ : ∃ S : Nat, (a : Int) % 16777216 = (S : Int) := ⟨a % 16777216, by omega⟩
  have hmo : mostN false = 16777216 := rfl
  obtain ⟨bs, V, HX, hput⟩ := hdS_text 4 false S A0 (by omega) (by omega) (by simp) (by omega) (by omega) (.inl (by first | exact hab | decide))
  have HPT := Lib.hid hput
  obtain ⟨z0, i0, i1, i2, i3, i4, i8, v0, ⟨v1, v2⟩, ⟨v3, v4⟩, hlo, hsh⟩ := HX
  have HSZ := Lib.hid (fun w => size_any 4 false w)
  have hzp := sizeN_pos (t := 4) false (by omega) (by omega) (by simp)
  generalize sizeN 4 false = Z at *
  have HHA : Hid (∀ w : World, Calls Tryz.prog 25 #[.int .i64 4] w fun e w' => e = .returned (.bool true) ∧ w = w') := Lib.hid (fun w => by
    have h := hasAck_any 4 w
    rw [show hasAckB 4 = true by first | exact hab | decide] at h
    exact h)
  obtain ⟨nb, hsl, hnum⟩ := hsh rfl
  have HNM := Lib.hid hnum
  rw [if_neg (by decide)] at v3 v4
  clear hput hmo hzp hlo hsh hnum
  go_enter Tryz.func9, Tryz.ntmps9
  go_upto_region 12 with (first
    | (go_at_call 15; refine (begun_any _).mono ?_; rintro e w0 ⟨rfl, hb0⟩)
    | (go_at_call 27; refine (HSZ.out _).mono ?_; rintro e w1 ⟨rfl, rfl⟩)
    | (refine store_blk rfl _ _ rfl _ Hd.zero (hdS 4 false S 0) rfl rfl (hd_new _) ?_; intro W2 hc2 hg2))
  have hC : w0.heap.size < W2.heap.size := hc2.lt
  have hbW2 : Below w.heap.size w W2 := (bel_trans hb0 (bel_alloc w0 _)).grown hg2 (bel_trans hb0 (bel_alloc w0 _)).size (fun k hk => by cases hk; exact hb0.size)
  have hCw : w.heap.size ≤ w0.heap.size := hb0.size
  generalize w0.heap.size = C at *
  have HB2 := Lib.hid hbW2
  clear hb0 hg2 hbW2
  have d9 : W2.cell? ⟨C, 9, none⟩ = some (.int .u64 0) := hc2.at_.2.2.2.2.2.2.2.2.2.1
  have f9 := hc2.free 9
  have hc3 := hc2.set (hdS 4 false S A0) 9 (.int .u64 (A0 : Int)) rfl
  have hw3 : Below w.heap.size w (W2.setCell ⟨C, 9, none⟩ (.int .u64 (A0 : Int))) := HB2.out.setCell (p := ⟨C, 9, none⟩) hCw _
  have hW3 : C < (W2.setCell ⟨C, 9, none⟩ (.int .u64 (A0 : Int))).heap.size := hc3.lt
  have HC3 := Lib.hid hc3
  have HW3 := Lib.hid hw3
  clear hc2 hc3 hw3 HB2
  go_upto_region 14 with (go_at_call 25; refine (HHA.out _).mono ?_; rintro e w1 ⟨rfl, rfl⟩)
  clear d9 f9 hC
  generalize W2.setCell ⟨C, 9, none⟩ (.int .u64 (A0 : Int)) = W3 at *
  go_upto_region 15 with (first
    | (refine load_blk rfl _ rfl C rfl _ HC3.out ?_)
    | (go_at_call 31; refine (HPT.out _).mono ?_; rintro e w4 ⟨rfl, hb4⟩))
  have hc4 := HC3.out.below hb4
  have d8 : w4.cell? ⟨C, 8, none⟩ = some (.int .u64 S) := hc4.at_.2.2.2.2.2.2.2.2.1
  have HB4 : Hid (Below w.heap.size w w4) := Lib.hid (bel_trans HW3.out hb4)
  clear hc4 hb4 hCw hW3 hS hA0 hk1 hT
  go_upto_region 19 with fail
  clear i0 i1 i2 i3 i4 i8 v1 v2 v3 v4 z0
  go_quiet ((go_at_call 42; exact Calls.quiet_of_same (HNM.out _)))
  go_wp2
  go_ret
  exact ⟨rfl, bel_trans HB4.out (bel_drewN _ _)⟩

set_option maxHeartbeats 4000000 in
set_option maxRecDepth 100000 in
theorem headSizes_zero (T t k1 : Int) (s a : Int) (hk1 : t.tmod 10 = k1) (b1 : -10 < k1) (b2 : k1 < 10) (hT : (k1 + 10).tmod 10 = T) (h2 : T ≠ 2) (h3 : T ≠ 3) (h4 : T ≠ 4) (w : World) :
    Calls Tryz.prog 9 #[.int .i64 t, .bool false, .int .u64 s, .int .u64 a] w fun e w' => e = .returned (.bool true) ∧ Below w.heap.size w w' := by
  have HSZ : Hid (∀ w : World, Calls Tryz.prog 27 #[.int .i64 T, .bool false] w fun e w' => e = .returned (.int .i64 0) ∧ w = w') := Lib.hid (fun w => by
    have h := size_any T false w
    rw [sizeN_zero h2 h3 h4] at h
    exact h)
  have n2 : (T != 2) = true := by rw [bne_iff_ne]; exact h2
  have n3 : (T != 3) = true := by rw [bne_iff_ne]; exact h3
  have n4 : (T != 4) = true := by rw [bne_iff_ne]; exact h4
  clear h2 h3 h4
  go_enter Tryz.func9, Tryz.ntmps9
  go_wp2_with (first
    | (go_at_call 15; refine (begun_any _).mono ?_; rintro e w0 ⟨rfl, hb0⟩)
    | (go_at_call 27; (with_reducible refine (HSZ.out _).mono ?_); rintro e w1 ⟨rfl, rfl⟩))
  all_goals go_ret
  all_goals exact ⟨rfl, hb0⟩

theorem headSizes_walk (t : Int) (x : Bool) (s a : Nat) (hs : s < 18446744073709551616) (ha : a < 18446744073709551616) (w : World) :
    Calls Tryz.prog 9 #[.int .i64 t, .bool x, .int .u64 s, .int .u64 a] w fun e w' => e = .returned (.bool true) ∧ Below w.heap.size w w' := by
  obtain ⟨b1, b2⟩ := tmod_lim t 10 (by omega)
  obtain ⟨k1, hk1⟩ : ∃ k, t.tmod 10 = k := ⟨_, rfl⟩
  rw [hk1] at b1 b2
  have h0 : 0 ≤ (k1 + 10).tmod 10 := Int.tmod_nonneg _ (by omega)
  obtain ⟨b3, b4⟩ := tmod_lim (k1 + 10) 10 (by omega)
  obtain ⟨T, hT⟩ : ∃ q, (k1 + 10).tmod 10 = q := ⟨_, rfl⟩
  rw [hT] at b3 b4 h0
  cases x with
  | true =>
    cases hab : hasAckB T with
    | false => exact headSizes_l0 T h0 (by omega) hab t k1 s a hk1 b1 b2 hT hs ha w
    | true => exact headSizes_l1 T h0 (by omega) hab t k1 s a hk1 b1 b2 hT hs ha w
  | false =>
    by_cases h2 : T = 2
    · subst h2; exact headSizes_s2 t k1 s a hk1 b1 b2 hT hs ha w
    · by_cases h3 : T = 3
      · subst h3; exact headSizes_s3 t k1 s a hk1 b1 b2 hT hs ha w
      · by_cases h4 : T = 4
        · subst h4; exact headSizes_s4 t k1 s a hk1 b1 b2 hT hs ha w
        · exact headSizes_zero T t k1 s a hk1 b1 b2 hT h2 h3 h4 w
end Go.Proofs.YtdlpapchjjbplaaGreatDoor
