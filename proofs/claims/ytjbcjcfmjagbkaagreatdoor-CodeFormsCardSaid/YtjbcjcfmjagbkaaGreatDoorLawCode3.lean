/-
  The laws CodeSigns and CodeForms, walked.
-/
import Derived.Test.YtjbcjcfmjagbkaaGreatDoorLawCode2
namespace Go.Proofs.YtjbcjcfmjagbkaaGreatDoor
open Go.ChangeShapes Go.WideShapes Go.ChangeAt Go.RowKit
set_option linter.unusedVariables false
set_option linter.unusedSimpArgs false

theorem or3 (a b c d : Nat) (ha : a < 256) (hb : b < 256) (hc : c < 256) (hd : d < 256) :
    bits .or .u32 ((a : Int) * 16777216) ((b : Int) * 65536) = ((a * 16777216 + b * 65536 : Nat) : Int) ∧
    bits .or .u32 ((a * 16777216 + b * 65536 : Nat) : Int) ((c : Int) * 256) = ((a * 16777216 + b * 65536 + c * 256 : Nat) : Int) ∧
    bits .or .u32 ((a * 16777216 + b * 65536 + c * 256 : Nat) : Int) (d : Int) = ((a * 16777216 + b * 65536 + c * 256 + d : Nat) : Int) := by
  refine ⟨?_, ?_, ?_⟩
  · rw [show ((a : Int) * 16777216) = ((a * 16777216 : Nat) : Int) by simp, show ((b : Int) * 65536) = ((b * 65536 : Nat) : Int) by simp, u32_or_nat _ _ (by omega) (by omega), nat_join 24 _ _ (by omega) (by omega)]
  · rw [show ((c : Int) * 256) = ((c * 256 : Nat) : Int) by simp, u32_or_nat _ _ (by omega) (by omega), nat_join 16 _ _ (by omega) (by omega)]
  · rw [u32_or_nat _ _ (by omega) (by omega), nat_join 8 _ _ (by omega) (by omega)]
theorem conv4 (w : World) (A B C D : UInt8) : (convert 36 9 (.slice (some ⟨w.heap.size, 0, none⟩) 4 4)).run Tryz.prog (w.alloc (.cells #[.int .u8 A.toNat, .int .u8 B.toNat, .int .u8 C.toNat, .int .u8 D.toNat] 5)) = .ok (.string (str [A, B, C, D])) (w.alloc (.cells #[.int .u8 A.toNat, .int .u8 B.toNat, .int .u8 C.toNat, .int .u8 D.toNat] 5)) := by
  refine run_convert_bytes_back _ 36 9 5 ⟨w.heap.size, 0, none⟩ 4 [A, B, C, D] Tryz.underlying36 Tryz.underlying5 Tryz.underlying9 (fun j hj => ?_)
  have hj4 : j < 4 := hj
  rcases (show j = 0 ∨ j = 1 ∨ j = 2 ∨ j = 3 by omega) with rfl | rfl | rfl | rfl
  · exact (World.cell?_alloc_mark w _ _ (0, 0) 0).trans (by simp)
  · exact (World.cell?_alloc_mark w _ _ (0, 0) 1).trans (by simp)
  · exact (World.cell?_alloc_mark w _ _ (0, 0) 2).trans (by simp)
  · exact (World.cell?_alloc_mark w _ _ (0, 0) 3).trans (by simp)

set_option maxHeartbeats 8000000 in
set_option maxRecDepth 100000 in
theorem codeSigns_walk (A B C D : UInt8) (w : World) (ht : Tab10 w) :
    Calls Tryz.prog 16 #[.int .u8 A.toNat, .int .u8 B.toNat, .int .u8 C.toNat, .int .u8 D.toNat] w fun e w' => e = .returned (.bool true) ∧ Below w.heap.size w w' := by
  have hA := A.toNat_lt; have hB := B.toNat_lt; have hC := C.toNat_lt; have hD := D.toNat_lt
  obtain ⟨o1, o2, o3⟩ := or3 A.toNat B.toNat C.toNat D.toNat hA hB hC hD
  obtain ⟨n, hn⟩ : ∃ n, A.toNat * 16777216 + B.toNat * 65536 + C.toNat * 256 + D.toNat = n := ⟨_, rfl⟩
  have hnl : n < 4294967296 := by omega
  have hbig : M.bigF 0 [A, B, C, D] = n := by rw [← hn]; simp [M.bigF]; omega
  have HTX := Lib.hid (fun W (h : Tab10 W) => codeText_any n hnl W (fun _ => h))
  have HRT := Lib.hid (fun W => refCodeText_any n hnl W)
  have hlt := codeText_len n
  have HS2 := Lib.hid (fun w => service_any (M.codeText n) (by omega) w)
  rw [M.serv_text n hnl] at HS2
  have HS3 : Hid (∀ w, Calls Tryz.prog 29 #[.string (str (sSC ++ [A, B, C, D]))] w fun e w' => e = .returned (codeRes (M.serv (sSC ++ [A, B, C, D]))) ∧ Below w.heap.size w w') := Lib.hid (fun w => service_any _ (by simp [sSC]) w)
  have HR3 : Hid (∀ w, Calls Tryz.prog 30 #[.string (str (sSC ++ [A, B, C, D]))] w fun e w' => e = .returned (codeRes (M.serv (sSC ++ [A, B, C, D]))) ∧ w = w') := Lib.hid (fun w => refService_any _ (by simp [sSC]) w)
  rw [M.serv_sgn] at HS3 HR3
  have hcat : ⟨#[83, 67, 58]⟩ ++ str [A, B, C, D] = str (sSC ++ [A, B, C, D]) := str_append sSC [A, B, C, D]
  have HC4 := Lib.hid (fun w => conv4 w A B C D)
  have hback : ∀ m, M.ofSgn [A, B, C, D] = some m → m = n ∧ str (M.codeText n) = str (sSC ++ [A, B, C, D]) := fun m hm => by
    have e := (M.ofSgn_parts _ _ hm).2.2.2
    have e2 : m = n := by rw [e, ← hbig]; simp
    refine ⟨e2, ?_⟩
    rw [← e2, (M.text_back _ _ hm).1]
  obtain ⟨st, hst⟩ : ∃ b, str (M.codeText n) = b := ⟨_, rfl⟩
  obtain ⟨s4, hs4⟩ : ∃ b, str [A, B, C, D] = b := ⟨_, rfl⟩
  obtain ⟨sx, hsx⟩ : ∃ b, str (sSC ++ [A, B, C, D]) = b := ⟨_, rfl⟩
  have hsz : s4.size = 4 := by rw [← hs4]; rfl
  have hcl : ¬ 9223372036854775807 < (⟨#[83, 67, 58]⟩ : ByteArray).size + s4.size := by show ¬ 9223372036854775807 < 3 + s4.size; omega
  rw [hst] at HTX HRT HS2 hback
  rw [hs4] at HC4 hcat
  rw [hsx] at HS3 HR3 hcat hback
  rw [hn] at o3
  generalize M.ofSgn [A, B, C, D] = OS at *
  generalize A.toNat = a at *
  generalize B.toNat = b at *
  generalize C.toNat = c at *
  generalize D.toNat = d at *
  obtain ⟨X1, hX1⟩ : ∃ X, ((a * 16777216 + b * 65536 : Nat) : Int) = X := ⟨_, rfl⟩
  obtain ⟨X2, hX2⟩ : ∃ X, ((a * 16777216 + b * 65536 + c * 256 : Nat) : Int) = X := ⟨_, rfl⟩
  rw [hX1] at o1 o2
  rw [hX2] at o2 o3
  have w1 : IntKind.u32.wrap ((a : Int) * 16777216) = (a : Int) * 16777216 := by rw [IntKind.wrap_u32]; omega
  have w2 : IntKind.u32.wrap ((b : Int) * 65536) = (b : Int) * 65536 := by rw [IntKind.wrap_u32]; omega
  have w3 : IntKind.u32.wrap ((c : Int) * 256) = (c : Int) * 256 := by rw [IntKind.wrap_u32]; omega
  have hX1b : 0 ≤ X1 ∧ X1 < 4294967296 := by omega
  have hX2b : 0 ≤ X2 ∧ X2 < 4294967296 := by omega
  have HTAB := Lib.hid ht
  have HOS : (OS = none) ∨ (OS = some n ∧ st = sx) := by
    cases OS with
    | none => exact .inl rfl
    | some m => obtain ⟨rfl, h2⟩ := hback m rfl; exact .inr ⟨rfl, h2⟩
  have hcm : (n = 4294967295 ∧ ((n : Int) != 4294967295) = false) ∨ (¬ n = 4294967295 ∧ ((n : Int) != 4294967295) = true) := by
    by_cases h : n = 4294967295
    · left; exact ⟨h, by rw [bne_eq_false_iff_eq]; omega⟩
    · right; exact ⟨h, by rw [bne_iff_ne]; omega⟩
  clear hback hbig hn hlt hst hs4 hsx hX1 hX2 ht hsz
  rcases HOS with rfl | ⟨rfl, rfl⟩
  all_goals rcases hcm with ⟨hm, d1⟩ | ⟨hm, d1⟩
  all_goals first | rw [if_pos hm] at HS2 | rw [if_neg hm] at HS2
  all_goals
    unfold codeRes at HS2 HS3 HR3
    clear hm
    go_enter Tryz.func16, Tryz.ntmps16
    go_upto_region 7 with (first
      | (go_at_call 17; refine (begun_any _).mono ?_; rintro e w0 ⟨rfl, hb0⟩)
      | (go_at_call 31; (with_reducible refine (HTX.out _ (HTAB.out.below hb0)).mono ?_); rintro e w4 ⟨rfl, hb4⟩)
      | (go_at_call 29; (with_reducible refine (HS2.out _).mono ?_); rintro e w5 ⟨rfl, hb5⟩))
    have HBX := Lib.hid (bel_trans hb0 (bel_trans hb4 hb5))
    have hc4 := HC4.out w5
    clear hb0 hb4 hb5 o1 o2 o3 w1 w2 w3 hX1b hX2b
    go_upto_region 8 with (first
      | (go_at_call 29; (with_reducible refine (HS3.out _).mono ?_); rintro e w6 ⟨rfl, hb6⟩))
    have HBY := Lib.hid (bel_trans HBX.out (bel_trans (bel_alloc w5 _) hb6))
    have hc5 := HC4.out w6
    clear hb6 hc4 HBX
    go_upto_region 9 with (first
      | (go_at_call 30; (with_reducible refine (HR3.out _).mono ?_); rintro e w7 ⟨rfl, rfl⟩))
    have HBZ := Lib.hid (bel_trans HBY.out (bel_alloc w6 (.cells #[.int .u8 a, .int .u8 b, .int .u8 c, .int .u8 d] 5)))
    clear hc5 HBY
    generalize w6.alloc (.cells #[.int .u8 a, .int .u8 b, .int .u8 c, .int .u8 d] 5) = w9 at *
    have hc6 := HC4.out
    go_wp2_with (first
      | (go_at_call 33; (with_reducible refine (HRT.out _).mono ?_); rintro e w8 ⟨rfl, hb8⟩))
    go_ret
    first
      | exact ⟨rfl, bel_trans HBZ.out hb8⟩
      | exact ⟨rfl, bel_trans (bel_trans HBZ.out hb8) (bel_alloc _ _)⟩

set_option maxHeartbeats 8000000 in
set_option maxRecDepth 100000 in
theorem codeForms_walk (c : Nat) (s : ByteArray) (at_ : Int) (X : UInt8) (hc : c < 4294967296) (hs : s.size ≤ maxLen) (b1 : -9223372036854775808 ≤ at_) (b2 : at_ ≤ 9223372036854775807) (w : World) (ht : Tab10 w) :
    Calls Tryz.prog 11 #[.int .u32 c, .string s, .int .i64 at_, .int .u8 X.toNat] w fun e w' => e = .returned (.bool true) ∧ Below w.heap.size w w' := by
  have HDC := Lib.hid (fun w => decimal_any c hc w)
  have HHX := Lib.hid (fun W => hex_any c hc W)
  have hld := M.dgs_len 10 10 c
  have hnd := M.dgs_ne 10 10 c (by omega)
  have hlx := M.dgs_len 16 8 c
  -- the decimal
  obtain ⟨L, hL⟩ : ∃ L, sSN ++ M.dgs 10 10 c = L := ⟨_, rfl⟩
  have hLN : L.length = 3 + (M.dgs 10 10 c).length := by rw [← hL, List.length_append]; rfl
  have hN4 : 4 ≤ L.length ∧ L.length ≤ 13 := by have := List.length_pos_iff.2 hnd; omega
  have HS1 := Lib.hid (fun w => service_any L (by omega) w)
  have HS2 : Hid (∀ w, Calls Tryz.prog 29 #[.string (str (sSN ++ 88 :: M.dgs 16 8 c))] w fun e w' => e = .returned (codeRes (M.serv (sSN ++ 88 :: M.dgs 16 8 c))) ∧ Below w.heap.size w w') := Lib.hid (fun w => service_any _ (by rw [List.length_append, List.length_cons]; show 3 + _ ≤ _; omega) w)
  rw [← hL, M.serv_num, M.numC_dec c hc, hL] at HS1
  rw [M.serv_num, M.numC_hex 88 (.inr rfl) c hc] at HS2
  have hcat1 : ⟨#[83, 67, 61]⟩ ++ str (M.dgs 10 10 c) = str L := by rw [← hL]; exact str_append sSN _
  have hcat2 : ⟨#[83, 67, 61, 88]⟩ ++ str (M.dgs 16 8 c) = str (sSN ++ 88 :: M.dgs 16 8 c) := str_append [83, 67, 61, 88] _
  -- the place
  obtain ⟨N, hN⟩ : ∃ N, L.length = N := ⟨_, rfl⟩
  rw [hN] at hN4
  obtain ⟨Z, hZ⟩ : ∃ Z : Int, (N : Int) = Z := ⟨_, rfl⟩
  obtain ⟨m1, m2⟩ := tmod_lim at_ Z (by omega)
  obtain ⟨k1, hk1⟩ : ∃ k, at_.tmod Z = k := ⟨_, rfl⟩
  rw [hk1] at m1 m2
  have m5 : 0 ≤ (k1 + Z).tmod Z := Int.tmod_nonneg _ (by omega)
  obtain ⟨m3, m4⟩ := tmod_lim (k1 + Z) Z (by omega)
  obtain ⟨K, hK⟩ : ∃ K : Nat, (k1 + Z).tmod Z = (K : Int) := ⟨((k1 + Z).tmod Z).toNat, by omega⟩
  have hKN : K < N := by omega
  obtain ⟨L2, hL2⟩ : ∃ L2, L.set K X = L2 := ⟨_, rfl⟩
  have hL2N : L2.length = N := by rw [← hL2, List.length_set, hN]
  have HCR := Lib.hid (fun w => conv_row w L)
  have HBA : Hid (∀ (W : World) (g : Nat), BRow W g L → ∃ z : Value, W.cell? ⟨g, K, none⟩ = some z ∧ W.frozen? ⟨g, K, none⟩ = false) := Lib.hid (fun W g h => ⟨_, (h.at K _ (by omega) rfl).1, (h.at K _ (by omega) rfl).2⟩)
  have HBV : Hid (∀ (W : World) (g : Nat), BRow W g L → BRow (W.setCell ⟨g, K, none⟩ (.int .u8 (X.toNat : Int))) g L2) := Lib.hid (fun W g h => by have e := h.set K X (X.toNat : Int) rfl; rwa [hL2] at e)
  have HCV : Hid (∀ (W : World) (g cap : Nat), BRow W g L2 → (convert 36 9 (.slice (some ⟨g, 0, none⟩) N cap)).run Tryz.prog W = .ok (.string (str L2)) W) := Lib.hid (fun W g cap h => by have e := h.conv cap; rwa [hL2N] at e)
  obtain ⟨c3, b3, hcb⟩ := codeRes_two (M.serv L2)
  have HS3 := Lib.hid (fun w => service_any L2 (by omega) w)
  have HR3 := Lib.hid (fun w => refService_any L2 (by omega) w)
  rw [hcb] at HS3 HR3
  -- the signs
  obtain ⟨q, hq, hql⟩ : ∃ q, s.data.toList.take 6 = q ∧ q.length ≤ 6 := ⟨_, rfl, by simp; omega⟩
  have HT := Lib.hid (fun w => textN_any s 6 6 q rfl (by omega) hs hq w)
  have HS4 : Hid (∀ w, Calls Tryz.prog 29 #[.string (str (sSC ++ q))] w fun e w' => e = .returned (codeRes (M.serv (sSC ++ q))) ∧ Below w.heap.size w w') := Lib.hid (fun w => service_any _ (by rw [List.length_append]; show 3 + _ ≤ _; omega) w)
  have HR4 : Hid (∀ w, Calls Tryz.prog 30 #[.string (str (sSC ++ q))] w fun e w' => e = .returned (codeRes (M.serv (sSC ++ q))) ∧ w = w') := Lib.hid (fun w => refService_any _ (by rw [List.length_append]; show 3 + _ ≤ _; omega) w)
  rw [M.serv_sgn] at HS4 HR4
  have hcat3 : ⟨#[83, 67, 58]⟩ ++ str q = str (sSC ++ q) := str_append sSC _
  have HTX : Hid (∀ u, M.ofSgn q = some u → ∀ W, Tab10 W → Calls Tryz.prog 31 #[.int .u32 u] W fun e w' => e = .returned (.string (str (sSC ++ q))) ∧ Below W.heap.size W w') := Lib.hid (fun u hu W hW => by
    obtain ⟨e1, e2⟩ := M.text_back q u hu
    have e := codeText_any u e2 W (fun _ => hW)
    rwa [e1] at e)
  have hz1 : (str (M.dgs 10 10 c)).size ≤ 10 := by rw [str_size]; exact hld
  have hz2 : (str (M.dgs 16 8 c)).size ≤ 8 := by rw [str_size]; exact hlx
  have hz3 : (str q).size ≤ 6 := by rw [str_size]; exact hql
  generalize str (M.dgs 10 10 c) = sd at *
  generalize str (M.dgs 16 8 c) = sh at *
  generalize str (sSN ++ 88 :: M.dgs 16 8 c) = s2 at *
  generalize str (sSC ++ q) = s4 at *
  generalize str q = sq at *
  obtain ⟨s1, hs1⟩ : ∃ b, str L = b := ⟨_, rfl⟩
  obtain ⟨s3, hs3⟩ : ∃ b, str L2 = b := ⟨_, rfl⟩
  rw [hs1] at HS1 hcat1 HCR
  rw [hs3] at HCV HS3 HR3
  rw [hN] at HCR
  have hcl1 : ¬ 9223372036854775807 < (⟨#[83, 67, 61]⟩ : ByteArray).size + sd.size := by show ¬ 9223372036854775807 < 3 + sd.size; omega
  have hcl2 : ¬ 9223372036854775807 < (⟨#[83, 67, 61, 88]⟩ : ByteArray).size + sh.size := by show ¬ 9223372036854775807 < 4 + sh.size; omega
  have hcl3 : ¬ 9223372036854775807 < (⟨#[83, 67, 58]⟩ : ByteArray).size + sq.size := by show ¬ 9223372036854775807 < 3 + sq.size; omega
  have HTAB := Lib.hid ht
  have hzz : (Z == 0) = false := by rw [beq_eq_false_iff_ne]; omega
  have hZb : 4 ≤ Z ∧ Z ≤ 13 := by omega
  have hcm : (c = 4294967295 ∧ ((c : Int) != 4294967295) = false) ∨ (¬ c = 4294967295 ∧ ((c : Int) != 4294967295) = true) := by
    by_cases h : c = 4294967295
    · left; exact ⟨h, by rw [bne_eq_false_iff_eq]; omega⟩
    · right; exact ⟨h, by rw [bne_iff_ne]; omega⟩
  have HL1 := Lib.hid hN
  generalize hOQ : M.ofSgn q = OQ at *
  clear hL hLN hnd hld hlx hN hL2 hL2N hcb hq hql hs1 hs3 ht hs m3 m4 hOQ
  rcases hcm with ⟨hm, d1⟩ | ⟨hm, d1⟩
  all_goals first | rw [if_pos hm] at HS1 HS2 | rw [if_neg hm] at HS1 HS2
  all_goals
    unfold codeRes at HS1 HS2
    clear hm
    go_enter Tryz.func11, Tryz.ntmps11
    go_upto_region 9 with (first
      | (go_at_call 17; refine (begun_any _).mono ?_; rintro e w0 ⟨rfl, hb0⟩)
      | (go_at_call 54; (with_reducible refine (HDC.out _).mono ?_); rintro e w1 ⟨rfl, hb1⟩)
      | (go_at_call 32; (with_reducible refine (HHX.out _).mono ?_); rintro e w2 ⟨rfl, hb2⟩)
      | (go_at_call 29; (with_reducible refine (HS1.out _).mono ?_); rintro e w3 ⟨rfl, hb3⟩)
      | (go_at_call 29; (with_reducible refine (HS2.out _).mono ?_); rintro e w4 ⟨rfl, hb4⟩))
    have HB4 := Lib.hid (bel_trans hb0 (bel_trans hb1 (bel_trans hb3 (bel_trans hb2 hb4))))
    clear hb0 hb1 hb2 hb3 hb4 d1
    obtain ⟨cap, o, hcv, hrow⟩ := HCR.out w4
    go_upto_region 10 with fail
    have hb9 : Below w.heap.size w (w4.alloc o).drew := bel_trans HB4.out (bel_trans (bel_alloc w4 o) (bel_drewN _ 1))
    have hrow : BRow (w4.alloc o).drew w4.heap.size L := hrow.same rfl
    have hg9 : w.heap.size ≤ w4.heap.size := HB4.out.size
    clear hcv hcat1 hcat2 HB4
    generalize w4.heap.size = g at *
    generalize (w4.alloc o).drew = W9 at *
    obtain ⟨z9, k9, f9⟩ := HBA.out W9 g hrow
    have hr10 := HBV.out W9 g hrow
    have hb10 := hb9.setCell (p := ⟨g, K, none⟩) hg9 (.int .u8 (X.toNat : Int))
    have HR10 := Lib.hid hr10; have HB10 := Lib.hid hb10
    clear hr10 hb10 hb9 hrow
    go_upto_region 11 with fail
    clear k9 f9 hk1 hK m1 m2 m5 hzz
    generalize W9.setCell ⟨g, K, none⟩ (.int .u8 (X.toNat : Int)) = W10 at *
    have hcv := HCV.out W10 g cap HR10.out
    go_upto_region 12 with (first
      | (go_at_call 29; (with_reducible refine (HS3.out _).mono ?_); rintro e w5 ⟨rfl, hb5⟩))
    have HB5 := Lib.hid (bel_trans HB10.out hb5)
    have hcv2 := HCV.out w5 g cap (HR10.out.same (hb5.block g HR10.out.lt))
    clear hcv hb5 HB10 HR10
    cases OQ with
    | none =>
      unfold codeRes at HS4 HR4
      go_wp2_with (first
        | (go_at_call 30; (with_reducible refine (HR3.out _).mono ?_); rintro e w6 ⟨rfl, rfl⟩)
        | (go_at_call 18; (with_reducible refine (HT.out _).mono ?_); rintro e w7 ⟨rfl, rfl⟩)
        | (go_at_call 29; (with_reducible refine (HS4.out _).mono ?_); rintro e w8 ⟨rfl, hb8⟩)
        | (go_at_call 30; (with_reducible refine (HR4.out _).mono ?_); rintro e w9 ⟨rfl, rfl⟩))
      go_ret
      exact ⟨rfl, bel_trans HB5.out hb8⟩
    | some u =>
      unfold codeRes at HS4 HR4
      have HTX2 := Lib.hid (HTX.out u rfl)
      go_wp2_with (first
        | (go_at_call 30; (with_reducible refine (HR3.out _).mono ?_); rintro e w6 ⟨rfl, rfl⟩)
        | (go_at_call 18; (with_reducible refine (HT.out _).mono ?_); rintro e w7 ⟨rfl, rfl⟩)
        | (go_at_call 29; (with_reducible refine (HS4.out _).mono ?_); rintro e w8 ⟨rfl, hb8⟩)
        | (go_at_call 30; (with_reducible refine (HR4.out _).mono ?_); rintro e w9 ⟨rfl, rfl⟩)
        | (go_at_call 31; (with_reducible refine (HTX2.out _ (HTAB.out.below (bel_trans HB5.out hb8))).mono ?_); rintro e wA ⟨rfl, hbA⟩))
      go_ret
      exact ⟨rfl, bel_trans (bel_trans HB5.out hb8) hbA⟩
end Go.Proofs.YtjbcjcfmjagbkaaGreatDoor
