/-
  The law NegoBad, walked (its opening handed in).
-/
import Derived.Test.YtfmnpepgmedfpaaGreatDoorNgZ
import Derived.Test.YtfmnpepgmedfpaaGreatDoorHeldK
namespace Go.Proofs.YtfmnpepgmedfpaaGreatDoor
open Go.ChangeShapes Go.WideShapes Go.ChangeAt Go.RowKit
set_option linter.unusedVariables false
set_option linter.unusedSimpArgs false

/-- What the law's side holds when v was asked for. -/
def nbS (f : Int) (v : List UInt8) : NgS := { ngInit false with want := upd (ngInit false).want f v }
theorem nb_first (f : Int) (b : UInt8) (hb : (b.toNat : Int) = f) (w : List UInt8) : (ngInit false).take1 [] ⟨35, b :: w⟩ false = ⟨true, ngInit false, []⟩ := by
  unfold NgS.take1
  rw [if_pos (show ngKind 35 = true from rfl)]
  dsimp only
  unfold NgS.hear
  rw [if_neg (by decide), if_neg (by decide), if_pos rfl]
  have e : (ngInit false).confirm (b.toNat : Int) w = some (ngInit false) := by
    unfold NgS.confirm
    rw [if_neg (fun h => h.2 rfl)]
  rw [e]
theorem nb_want (f : Int) (v : List UInt8) : (nbS f v).want f = v := by
  show upd (ngInit false).want f v f = v
  unfold upd
  rw [if_pos rfl]
theorem nb_second (f : Int) (b : UInt8) (hb : (b.toNat : Int) = f) (hk : ftKnown f = true) (hl : ftLst f = true) (v : List UInt8) (hv : v ≠ []) (w : List UInt8) :
    (nbS f v).take1 [] ⟨35, b :: w⟩ false = match w with
      | [] => ⟨true, { nbS f v with want := upd (nbS f v).want f [] }, []⟩
      | c :: r => if c ∈ v then ⟨true, { nbS f v with mine := upd (nbS f v).mine f [c], want := upd (nbS f v).want f [] }, []⟩ else ⟨false, nbS f v, []⟩ := by
  unfold NgS.take1
  rw [if_pos (show ngKind 35 = true from rfl)]
  dsimp only
  unfold NgS.hear
  rw [if_neg (by decide), if_neg (by decide), if_pos rfl, hb]
  unfold NgS.confirm
  rw [nb_want, if_pos ⟨hk, hv⟩]
  cases w with
  | nil => rfl
  | cons c r =>
    dsimp only
    rw [if_pos hl]
    by_cases hc : c ∈ v
    · rw [if_pos hc, if_pos hc]
    · rw [if_neg hc, if_neg hc]
theorem nb_clear (f : Int) (v : List UInt8) (g : Int) : upd (nbS f v).want f [] g = [] := by
  unfold upd
  split
  · rfl
  · rename_i h
    show upd (ngInit false).want f v g = []
    unfold upd
    rw [if_neg h]
    rfl
theorem nb_done (f : Int) (v m : List UInt8) : ({ nbS f v with mine := upd (nbS f v).mine f m, want := upd (nbS f v).want f [] } : NgS).done = true ∧ ({ nbS f v with want := upd (nbS f v).want f [] } : NgS).done = true := by
  unfold NgS.done
  simp only [nb_clear]
  exact ⟨rfl, rfl⟩
theorem nb_not (f : Int) (hf : f = 1 ∨ f = 6 ∨ f = 8) (v : List UInt8) (hv : v ≠ []) : (nbS f v).done = false := by
  unfold NgS.done
  rcases hf with rfl | rfl | rfl
  all_goals
    rw [nb_want]
    simp [hv]
set_option maxHeartbeats 8000000 in
set_option maxRecDepth 100000 in
theorem negoBad_walk (fz : Int) (f1 : -9223372036854775808 ≤ fz) (f2 : fz ≤ 9223372036854775807) (s1 s2 : ByteArray) (hs1 : s1.size ≤ maxLen) (hs2 : s2.size ≤ maxLen) (w : World)
    (hbg : Calls Tryz.prog 15 #[] w fun e w' => e = .returned (.bool true) ∧ Below w.heap.size w w') :
    Calls Tryz.prog 9 #[.int .i64 fz, .string s1, .string s2] w fun e w' => e = .returned (.bool true) ∧ Below w.heap.size w w' := by
  have HBG := Lib.hid hbg
  obtain ⟨lv, hlv, ht1⟩ := text_cutN s1 8 (by decide) hs1
  obtain ⟨lw, hlw, ht2⟩ := text_cutN s2 8 (by decide) hs2
  have HT1 : Hid (∀ W, Calls Tryz.prog 27 #[.string s1, .int .i64 8] W fun e w' => e = .returned (.string (str lv)) ∧ W = w') := Lib.hid ht1
  have HT2 : Hid (∀ W, Calls Tryz.prog 27 #[.string s2, .int .i64 8] W fun e w' => e = .returned (.string (str lw)) ∧ W = w') := Lib.hid ht2
  obtain ⟨a, ha, a1, a2, J, hJ, hJ3⟩ := mod_atN fz 3 (by decide)
  obtain ⟨B, hB⟩ : ∃ B, w.heap.size = B := ⟨_, rfl⟩
  have q1 : IntKind.i64.wrap (a + 3) = a + 3 := by rw [IntKind.wrap_i64]; omega
  have q2 : wrap64 (a + 3) = a + 3 := by unfold wrap64; omega
  obtain ⟨F, hf, hrow⟩ : ∃ F : Nat, (F = 1 ∨ F = 6 ∨ F = 8) ∧ ∀ h : J < [Value.int .i64 1, .int .i64 6, .int .i64 8].length, [Value.int .i64 1, .int .i64 6, .int .i64 8][J]'h = .int .i64 (F : Int) := by
    have h3 : J = 0 ∨ J = 1 ∨ J = 2 := by omega
    rcases h3 with rfl | rfl | rfl
    · exact ⟨1, .inl rfl, fun _ => rfl⟩
    · exact ⟨6, .inr (.inl rfl), fun _ => rfl⟩
    · exact ⟨8, .inr (.inr rfl), fun _ => rfl⟩
  have hJ4 : J < 3 := by omega
  have HNEW : Hid (∀ W, Below B w W → Calls Tryz.prog 30 #[.bool false] W fun e w' => ∃ C, e = .returned (.pointer (some ⟨C, 0, none⟩)) ∧ NgL (ngInit false) [] C B w w' ∧ C = W.heap.size ∧ Below W.heap.size W w') := Lib.hid (fun W h => NgL.new false B w W h (by omega))
  have HBe := Lib.hid hB
  have HF := Lib.hid hf
  clear hbg ht1 ht2 hs1 hs2 hJ3 hf hB
  have hrow0 := hrow
  go_enter Tryz.func9, Tryz.ntmps9
  go_upto_region 7 with (first
    | (go_at_call 15; (with_reducible refine HBG.out.mono ?_); rintro e w0 ⟨rfl, hb0⟩)
    | (go_at_call 27; (first
      | ((with_reducible refine (HT1.out _).mono ?_); rintro e w1 ⟨rfl, rfl⟩)
      | ((with_reducible refine (HT2.out _).mono ?_); rintro e w2 ⟨rfl, rfl⟩)))
    | (go_at_call 30; (with_reducible refine (HNEW.out _ (by rw [← HBe.out]; exact bel_trans hb0 (bel_alloc _ _))).mono ?_); rintro e w3 ⟨C, rfl, h3, -, -⟩))
  have H3 := Lib.hid h3
  have HC3 : Hid (Below B w w3) := Lib.hid h3.bel
  clear HT1 HT2 HBG HNEW h3 hb0
  have hF9 : F < 256 := by rcases HF.out with h | h | h <;> omega
  have q3 : IntKind.u8.wrap (F : Int) = (F : Int) := by rw [IntKind.wrap_u8]; omega
  obtain ⟨b, hb⟩ : ∃ b, UInt8.ofNat F = b := ⟨_, rfl⟩
  have hbF : (b.toNat : Int) = (F : Int) := by rw [← hb]; simp; omega
  have HCV := Lib.hid (conv_one F hF9)
  rw [hb] at HCV
  have HBF := Lib.hid hbF
  have hcv := HCV.out w3
  obtain ⟨one, hone⟩ : ∃ one, str [b] = one := ⟨_, rfl⟩
  rw [hone] at hcv
  obtain ⟨X, hX⟩ : ∃ X, str (b :: lw) = X := ⟨_, rfl⟩
  have happ : one ++ str lw = X := by rw [← hone, ← hX]; rfl
  have ho1 : one.size = 1 := by rw [← hone]; rfl
  have hw1 : (str lw).size ≤ 8 := hlw
  have HX := Lib.hid hX
  clear hone hX HCV hbF
  have hFk : ftKnown (F : Int) = true ∧ ftLst (F : Int) = true := by rcases HF.out with rfl | rfl | rfl <;> exact ⟨rfl, rfl⟩
  have HTK1 : Hid (∀ W, NgL (ngInit false) [] C B w W → Calls Tryz.prog 31 #[.pointer (some ⟨C, 0, none⟩), .slice (some ⟨W.heap.size, 0, none⟩) 1 1] (W.alloc (.cells #[.int .i64 35, .string X] 57)) fun e w' => e = .returned (.bool true) ∧ NgL (ngInit false) [] C B w w') := Lib.hid (fun W h => by
    have h9 := h.one ⟨35, b :: lw⟩ (by simp; omega) (by simp)
    rw [nb_first (F : Int) b HBF.out lw] at h9
    unfold OvBox at h9
    dsimp only at h9
    rw [HX.out] at h9
    exact h9)
  obtain ⟨D, hD⟩ : ∃ D, str (ftDefault (F : Int)) = D := ⟨_, rfl⟩
  have HMN0 : Hid (∀ W, NgL (ngInit false) [] C B w W → Calls Tryz.prog 32 #[.pointer (some ⟨C, 0, none⟩), .int .i64 (F : Int)] W fun e w' => e = .returned (.string D) ∧ ∃ n, w' = W.drewN n) := Lib.hid (fun W h => by
    have h9 := h.mine (F : Int)
    rw [if_pos hFk.1, show (ngInit false).mine = ftDefault from rfl, hD] at h9
    exact h9)
  have HDF := Lib.hid (fun W => ftDefault_any (F : Int) W)
  rw [hD] at HDF
  have HWT : Hid (∀ W, NgL (ngInit false) [] C B w W → Calls Tryz.prog 34 #[.pointer (some ⟨C, 0, none⟩), .int .i64 (F : Int), .string (str lv)] W fun e w' => e = .returned (.int .i64 (ngJudge (F : Int) lv)) ∧ NgL (if ngJudge (F : Int) lv = 0 then nbS (F : Int) lv else ngInit false) [] C B w w') := Lib.hid (fun W h => h.want (F : Int) lv (by omega))
  have HMY := Lib.hid (fun W => ftMay_any (F : Int) lv (by omega) W)
  have HJ : Hid (ngJudge (F : Int) lv = if ftMay (F : Int) lv = true then 0 else 3) := Lib.hid (by unfold ngJudge; rw [if_pos hFk.1])
  have HD := Lib.hid hD
  have HFK := Lib.hid hFk
  clear hD hFk
  go_upto_region 8 with (fail)
  have H4 : Hid (NgL (ngInit false) [] C B w (w3.alloc (.cells #[.int .u8 (F : Int)] 5))) := Lib.hid (H3.out.below (bel_alloc _ _))
  clear H3 HC3 hcv hrow hrow0 ha hJ q3 q1 q2
  generalize w3.alloc (.cells #[.int .u8 (F : Int)] 5) = w4 at *
  cases hm : ftMay (F : Int) lv with
  | false =>
    rw [hm] at HJ HMY
    rw [if_neg (by decide)] at HJ
    rw [HJ.out] at HWT
    rw [if_neg (by decide)] at HWT
    go_wp2_with (first
      | (go_at_call 31; (with_reducible refine (HTK1.out _ H4.out).mono ?_); rintro e w5 ⟨rfl, h5⟩; have H5 := Lib.hid h5; clear h5)
      | (go_at_call 32; (with_reducible refine (HMN0.out _ H5.out).mono ?_); rintro e w6 ⟨rfl, n6, rfl⟩)
      | (go_at_call 33; (with_reducible refine (HDF.out _).mono ?_); rintro e w7 ⟨rfl, hb7⟩; have H7 := Lib.hid ((H5.out.below (bel_drewN _ _)).below hb7); clear hb7)
      | (go_at_call 34; (first
        | ((with_reducible refine (HWT.out _ H8.out).mono ?_); rintro e w9 ⟨rfl, h9⟩; have H9 := Lib.hid h9; clear h9)
        | ((with_reducible refine (HWT.out _ H7.out).mono ?_); rintro e w8 ⟨rfl, h8⟩; have H8 := Lib.hid h8; clear h8)))
      | (go_at_call 29; (with_reducible refine (HMY.out _).mono ?_); rintro e w10 ⟨rfl, n10, rfl⟩))
    go_ret
    exact ⟨rfl, by rw [HBe.out]; exact H9.out.bel.trans ((bel_drewN _ _).mono (by have := H9.out.bel.size; have := HBe.out; omega))⟩
  | true =>
    rw [hm] at HJ
    rw [if_pos rfl] at HJ
    rw [HJ.out] at HWT
    rw [if_pos rfl] at HWT
    have hvl := ftMay_len hm
    have hv0 : lv ≠ [] := fun e => by rw [e] at hvl; exact absurd hvl.2 (by decide)
    have HSEC := Lib.hid (nb_second (F : Int) b HBF.out HFK.out.1 HFK.out.2 lv hv0 lw)
    have HNOT : Hid ((nbS (F : Int) lv).done = false) := Lib.hid (nb_not (F : Int) (by rcases HF.out with rfl | rfl | rfl <;> decide) lv hv0)
    have HTK2 : Hid (∀ W, NgL (nbS (F : Int) lv) [] C B w W → Calls Tryz.prog 31 #[.pointer (some ⟨C, 0, none⟩), .slice (some ⟨W.heap.size, 0, none⟩) 1 1] (W.alloc (.cells #[.int .i64 35, .string X] 57)) fun e w' => e = .returned (.bool ((nbS (F : Int) lv).take1 [] ⟨35, b :: lw⟩ false).ok) ∧ NgL ((nbS (F : Int) lv).take1 [] ⟨35, b :: lw⟩ false).s ((nbS (F : Int) lv).take1 [] ⟨35, b :: lw⟩ false).due C B w w') := Lib.hid (fun W h => by
      have h9 := h.one ⟨35, b :: lw⟩ (by simp; omega) (by simp)
      unfold OvBox at h9
      dsimp only at h9
      rw [HX.out] at h9
      exact h9)
    go_upto_region 10 with (first
      | (go_at_call 31; (with_reducible refine (HTK1.out _ H4.out).mono ?_); rintro e w5 ⟨rfl, h5⟩; have H5 := Lib.hid h5; clear h5)
      | (go_at_call 32; (with_reducible refine (HMN0.out _ H5.out).mono ?_); rintro e w6 ⟨rfl, n6, rfl⟩)
      | (go_at_call 33; (with_reducible refine (HDF.out _).mono ?_); rintro e w7 ⟨rfl, hb7⟩; have H7 := Lib.hid ((H5.out.below (bel_drewN _ _)).below hb7); clear hb7)
      | (go_at_call 34; (with_reducible refine (HWT.out _ H7.out).mono ?_); rintro e w8 ⟨rfl, h8⟩; have H8 := Lib.hid h8; clear h8))
    have HMD := Lib.hid (fun (s : NgS) W (h : NgL s [] C B w W) => h.mine (F : Int))
    clear HTK1 HMN0 HWT H4 H5 H7 HMY HJ hm
    obtain ⟨Y, hY⟩ : ∃ Y, str lw = Y := ⟨_, rfl⟩
    rw [hY] at happ hw1 ⊢
    have HY := Lib.hid hY
    clear hY
    cases lw with
    | nil =>
      have hye : Y.toList.isEmpty = true := by
        rw [← HY.out, str_toList]
        rfl
      dsimp only at HSEC
      rw [HSEC.out] at HTK2
      have HD2 := Lib.hid (nb_done (F : Int) lv []).2
      have HMD2 : Hid (∀ W, NgL { nbS (F : Int) lv with want := upd (nbS (F : Int) lv).want (F : Int) [] } [] C B w W → Calls Tryz.prog 32 #[.pointer (some ⟨C, 0, none⟩), .int .i64 (F : Int)] W fun e w' => e = .returned (.string D) ∧ ∃ n, w' = W.drewN n) := Lib.hid (fun W h => by
        have h9 := HMD.out _ W h
        rw [if_pos HFK.out.1, show ({ nbS (F : Int) lv with want := upd (nbS (F : Int) lv).want (F : Int) [] } : NgS).mine = ftDefault from rfl, HD.out] at h9
        exact h9)
      generalize ({ nbS (F : Int) lv with want := upd (nbS (F : Int) lv).want (F : Int) [] } : NgS) = S2 at *
      have HDN : Hid (∀ W, NgL S2 [] C B w W → Calls Tryz.prog 35 #[.pointer (some ⟨C, 0, none⟩)] W fun e w' => e = .returned (.bool true) ∧ NgL S2 [] C B w w') := Lib.hid (fun W h => by
        have h9 := h.done
        rw [HD2.out] at h9
        exact h9.mono fun e w' ⟨q1, q2⟩ => ⟨q1, h.below q2⟩)
      clear HMD HD2 HSEC HNOT HD HX
      go_wp2_with (first
        | (go_at_call 31; (with_reducible refine (HTK2.out _ H8.out).mono ?_); rintro e w9 ⟨rfl, h9⟩; have H9 := Lib.hid h9; clear h9)
        | (go_at_call 35; (with_reducible refine (HDN.out _ H9.out).mono ?_); rintro e w10 ⟨rfl, h10⟩; have H10 := Lib.hid h10; clear h10)
        | (go_at_call 32; (with_reducible refine (HMD2.out _ H10.out).mono ?_); rintro e w11 ⟨rfl, n11, rfl⟩)
        | (go_at_call 33; (with_reducible refine (HDF.out _).mono ?_); rintro e w12 ⟨rfl, hb12⟩; have H12 := Lib.hid ((H10.out.below (bel_drewN _ _)).below hb12); clear hb12))
      go_ret
      exact ⟨rfl, by rw [HBe.out]; exact H12.out.bel⟩
    | cons c r =>
      have hye : Y.toList.isEmpty = false := by
        rw [← HY.out]
        exact str_ne (by simp)
      have hy0 : 0 < Y.size := by rw [← HY.out]; exact (str_head c r).1
      have hyc : Y[0] = c := by
        have h9 := HY.out
        subst h9
        exact (str_head c r).2 _
      have HR : Hid (∃ S2, (nbS (F : Int) lv).take1 [] ⟨35, b :: c :: r⟩ false = ⟨decide (c ∈ lv), S2, []⟩ ∧ S2.done = decide (c ∈ lv) ∧ (c ∈ lv → S2.mine (F : Int) = [c])) := Lib.hid (by
        have h9 := HSEC.out
        dsimp only at h9
        by_cases hc : c ∈ lv
        · rw [if_pos hc] at h9
          rw [decide_eq_true hc]
          refine ⟨_, h9, (nb_done (F : Int) lv [c]).1, fun _ => ?_⟩
          show upd (nbS (F : Int) lv).mine (F : Int) [c] (F : Int) = [c]
          unfold upd
          rw [if_pos rfl]
        · rw [if_neg hc] at h9
          rw [decide_eq_false hc]
          exact ⟨_, h9, HNOT.out, fun h => absurd h hc⟩)
      obtain ⟨S2, e2, hd2, hm2⟩ := HR.out
      rw [e2] at HTK2
      dsimp only at HTK2
      have HDN : Hid (∀ W, NgL S2 [] C B w W → Calls Tryz.prog 35 #[.pointer (some ⟨C, 0, none⟩)] W fun e w' => e = .returned (.bool (decide (c ∈ lv))) ∧ NgL S2 [] C B w w') := Lib.hid (fun W h => by
        have h9 := h.done
        rw [hd2] at h9
        exact h9.mono fun e w' ⟨q1, q2⟩ => ⟨q1, h.below q2⟩)
      have hsl : ∀ W, (Instr.slice 9 (.string Y) none (some (.int .i64 1)) none).run Tryz.prog W = .ok (.string (str [c])) W := fun W => by
        have h9 := str_pre (c :: r) 1 (by simp) (by omega) W
        rw [HY.out] at h9
        exact h9
      obtain ⟨y1, hy1⟩ : ∃ y1, str [c] = y1 := ⟨_, rfl⟩
      rw [hy1] at hsl
      have HMD2 : Hid (c ∈ lv → ∀ W, NgL S2 [] C B w W → Calls Tryz.prog 32 #[.pointer (some ⟨C, 0, none⟩), .int .i64 (F : Int)] W fun e w' => e = .returned (.string y1) ∧ ∃ n, w' = W.drewN n) := Lib.hid (fun hc W h => by
        have h9 := HMD.out _ W h
        rw [if_pos HFK.out.1, hm2 hc, hy1] at h9
        exact h9)
      have hza : (str lv).size = lv.length := rfl
      have HBT : Hid (∀ i (h : i < (str lv).size), (lv.take (i + 1)) = lv.take i ++ [(str lv)[i]]) := Lib.hid (fun i h => M.bytes_take (str lv) i h)
      have HALL : Hid (lv.take (str lv).size = lv) := Lib.hid (by rw [hza, List.take_length])
      have hA : (str lv).size ≤ 8 := hlv
      clear HMD hd2 hm2 e2 HR HSEC HNOT HD HX hy1 HY hza hvl hv0 hb
      obtain ⟨A, hAA⟩ : ∃ A, str lv = A := ⟨_, rfl⟩
      rw [hAA] at HBT HALL hA ⊢
      clear hAA
      have HYC := Lib.hid hyc
      clear hyc
      go_wp2_with (go_at_call 31; (with_reducible refine (HTK2.out _ H8.out).mono ?_); rintro e w9 ⟨rfl, h9⟩; have H9 := Lib.hid h9; clear h9)
      clear H8 HTK2
      go_loopw [11, 12] (fun u iv wr => ∃ k : Nat, u = .bool (decide (c ∈ lv.take k)) ∧ iv = .int .i64 (k : Int) ∧ k ≤ A.size ∧ Hid (NgL S2 [] C B w wr)) (fun _ iv _ => A.size - (intOf iv).toNat)
      case atStart => exact ⟨0, by simp, rfl, Nat.zero_le _, H9⟩
      case round =>
        obtain ⟨k, rfl, rfl, hk, hwr⟩ := hrel
        by_cases hkn : k < A.size
        · have d9 : decide ((k : Int) < (A.size : Int)) = true := decide_eq_true (by omega)
          have HB1 := Lib.hid (HBT.out k hkn)
          by_cases hc : c ∈ lv.take k
          · have HN : Hid (decide (c ∈ lv.take (k + 1)) = true) := Lib.hid (decide_eq_true (by rw [HB1.out]; exact List.mem_append.2 (.inl hc)))
            rw [decide_eq_true hc]
            clear hc
            go_upto_region 17 with (fail)
            go_quiet (fail)
            go_wp2
            refine ⟨⟨k + 1, by rw [HN.out], by go_num, by omega, Lib.hid (hwr.out.below (bel_drewN _ _))⟩, ?_⟩
            simp [intOf]; omega
          · by_cases he : A[k] = c
            · have HN : Hid (decide (c ∈ lv.take (k + 1)) = true) := Lib.hid (decide_eq_true (by rw [HB1.out, he]; simp))
              have b8 : (((A[k]).toNat : Int) == ((Y[0]).toNat : Int)) = true := by rw [he, HYC.out, beq_iff_eq]
              rw [decide_eq_false hc]
              clear hc he
              go_upto_region 17 with (fail)
              go_quiet (fail)
              go_wp2
              refine ⟨⟨k + 1, by rw [HN.out], by go_num, by omega, Lib.hid (hwr.out.below (bel_drewN _ _))⟩, ?_⟩
              simp [intOf]; omega
            · have HN : Hid (decide (c ∈ lv.take (k + 1)) = false) := Lib.hid (decide_eq_false (by
                rw [HB1.out]
                intro hm
                rcases List.mem_append.1 hm with h | h
                · exact hc h
                · exact he (List.mem_singleton.1 h).symm))
              have b8 : (((A[k]).toNat : Int) == ((Y[0]).toNat : Int)) = false := by
                rw [HYC.out, beq_eq_false_iff_ne]
                intro e
                exact he (UInt8.toNat_inj.1 (by omega))
              rw [decide_eq_false hc]
              clear hc he
              go_upto_region 17 with (fail)
              go_quiet (fail)
              go_wp2
              refine ⟨⟨k + 1, by rw [HN.out], by go_num, by omega, Lib.hid (hwr.out.below (bel_drewN _ _))⟩, ?_⟩
              simp [intOf]; omega
        · obtain rfl : k = A.size := by omega
          have d9 : decide ((A.size : Int) < (A.size : Int)) = false := decide_eq_false (by omega)
          rw [HALL.out]
          by_cases hc : c ∈ lv
          · rw [decide_eq_true hc] at HDN ⊢
            have HM3 := Lib.hid (HMD2.out hc)
            clear HMD2 hc
            have HWD : Hid (NgL S2 [] C B w wr.drew) := Lib.hid (hwr.out.below (bel_drewN wr 1))
            go_upto_region 18 with (fail)
            go_region_held3 (fun W => NgL S2 [] C B w W) (first | exact hwr.out | exact HWD.out | exact H10.out | exact H10.out.below (bel_drewN _ _)) (first
              | (go_at_call 35; (with_reducible refine (HDN.out _ HWD.out).mono ?_); rintro e w10 ⟨rfl, h10⟩; have H10 := Lib.hid h10; clear h10)
              | (go_at_call 32; (with_reducible refine (HM3.out _ H10.out).mono ?_); rintro e w11 ⟨rfl, n11, rfl⟩))
            all_goals
              go_wp2
              go_ret
              exact ⟨rfl, by rw [HBe.out]; exact (H10.out.below (bel_drewN _ _)).bel⟩
          · rw [decide_eq_false hc] at HDN ⊢
            clear HMD2 hc
            have HWD : Hid (NgL S2 [] C B w wr.drew) := Lib.hid (hwr.out.below (bel_drewN wr 1))
            go_upto_region 18 with (fail)
            refine wp_region_held_drew (S := fun W => NgL S2 [] C B w W) (by kernel_rfl) HWD.out (fun hHeld => ?_)
            refine wpAnyH_takeK (i := 0) (d := 103) (.move (.tmp 10)) (.bool false) (by kernel_rfl) (by kernel_rfl) (by kernel_rfl) (by kernel_rfl) (fun _ _ _ h => h) ?_ (by assumption) ?_
            · intro o ho w _
              unfold execOp
              rw [ho]
              go_simp
            try simp only [Act.put, List.setIfInBounds_toArray, List.set_cons_zero, List.set_cons_succ]
            refine wpAnyH_takeK (i := 1) (d := 104) (.move (.tmp 11)) (.bool false) (by kernel_rfl) (by kernel_rfl) (by kernel_rfl) (by kernel_rfl) (fun _ _ _ h => h) ?_ (by assumption) ?_
            · intro o ho w _
              unfold execOp
              rw [ho]
              go_simp
            try simp only [Act.put, List.setIfInBounds_toArray, List.set_cons_zero, List.set_cons_succ]
            refine wpAnyH_takeK (i := 2) (d := 105) (.binOp .eql 4 (.tmp 103) (.tmp 104) 4) (.bool true) (by kernel_rfl) (by kernel_rfl) (by kernel_rfl) (by kernel_rfl) (fun _ _ _ h => h) ?_ (by assumption) ?_
            · intro o ho w _
              unfold execOp
              rw [ho]
              go_simp
            try simp only [Act.put, List.setIfInBounds_toArray, List.set_cons_zero, List.set_cons_succ]
            refine wpAnyH_takeK (i := 3) (d := 106) (.move (.tmp 105)) (.bool true) (by kernel_rfl) (by kernel_rfl) (by kernel_rfl) (by kernel_rfl) (fun _ _ _ h => h) ?_ (by assumption) ?_
            · intro o ho w _
              unfold execOp
              rw [ho]
              go_simp
            try simp only [Act.put, List.setIfInBounds_toArray, List.set_cons_zero, List.set_cons_succ]
            refine wpAnyH_takeK (i := 4) (d := 107) (.move (.tmp 8)) (.pointer (some ⟨C, 0, none⟩)) (by kernel_rfl) (by kernel_rfl) (by kernel_rfl) (by kernel_rfl) (fun _ _ _ h => h) ?_ (by assumption) ?_
            · intro o ho w _
              unfold execOp
              rw [ho]
              go_simp
            try simp only [Act.put, List.setIfInBounds_toArray, List.set_cons_zero, List.set_cons_succ]
            refine wpAnyH_takeK (i := 6) (d := 109) (.move (.tmp 11)) (.bool false) (by kernel_rfl) (by kernel_rfl) (by kernel_rfl) (by kernel_rfl) (fun _ _ _ h => h) ?_ (by assumption) ?_
            · intro o ho w _
              unfold execOp
              rw [ho]
              go_simp
            try simp only [Act.put, List.setIfInBounds_toArray, List.set_cons_zero, List.set_cons_succ]
            refine wpAnyH_ready (rs := [5]) (by kernel_rfl) (by simp) ?_
            refine AllReadyH.cons (o := { dst := some 108, op := Op.call { callee := Callee.value (Operand.func 35), args := #[Operand.tmp 107], argTypes := #[52] }, type := 4, pos := "more.go:92", after := #[{ on := 4, ground := Ground.data }, { on := 3, ground := Ground.chain }, { on := 3, ground := Ground.guard }], guard := some (3, true) }) (by kernel_rfl) (fun K hK => ?_) AllReadyH.nil
            go_simp
            go_at_call 35
            with_reducible refine (HDN.out _ HWD.out).mono ?_
            rintro e w10 ⟨rfl, h10⟩
            refine hK.out _ _ h10 (fun hHeld2 => ?_)
            clear hK K hHeld
            have H10 := Lib.hid h10
            try simp only [Act.put, List.setIfInBounds_toArray, List.set_cons_zero, List.set_cons_succ]
            refine wpAnyH_takeK (i := 7) (d := 110) (.binOp .eql 4 (.tmp 108) (.tmp 109) 4) (.bool true) (by kernel_rfl) (by kernel_rfl) (by kernel_rfl) (by kernel_rfl) (fun _ _ _ h => h) ?_ (by assumption) ?_
            · intro o ho w _
              unfold execOp
              rw [ho]
              go_simp
            try simp only [Act.put, List.setIfInBounds_toArray, List.set_cons_zero, List.set_cons_succ]
            refine wpAnyH_takeK (i := 8) (d := 111) (.pick (.tmp 106) (.tmp 110) (.const (.bool false))) (.bool true) (by kernel_rfl) (by kernel_rfl) (by kernel_rfl) (by kernel_rfl) (fun _ _ _ h => h) ?_ (by assumption) ?_
            · intro o ho w _
              unfold execOp
              rw [ho]
              go_simp
            try simp only [Act.put, List.setIfInBounds_toArray, List.set_cons_zero, List.set_cons_succ]
            refine wpAnyH_takeK (i := 9) (d := 112) (.move (.tmp 111)) (.bool true) (by kernel_rfl) (by kernel_rfl) (by kernel_rfl) (by kernel_rfl) (fun _ _ _ h => h) ?_ (by assumption) ?_
            · intro o ho w _
              unfold execOp
              rw [ho]
              go_simp
            try simp only [Act.put, List.setIfInBounds_toArray, List.set_cons_zero, List.set_cons_succ]
            refine wpAnyH_takeK (i := 10) (d := 113) (.move (.tmp 11)) (.bool false) (by kernel_rfl) (by kernel_rfl) (by kernel_rfl) (by kernel_rfl) (fun _ _ _ h => h) ?_ (by assumption) ?_
            · intro o ho w _
              unfold execOp
              rw [ho]
              go_simp
            try simp only [Act.put, List.setIfInBounds_toArray, List.set_cons_zero, List.set_cons_succ]
            refine wpAnyH_takeK (i := 11) (d := 114) (.unOp .not 4 (.tmp 113)) (.bool true) (by kernel_rfl) (by kernel_rfl) (by kernel_rfl) (by kernel_rfl) (fun _ _ _ h => h) ?_ (by assumption) ?_
            · intro o ho w _
              unfold execOp
              rw [ho]
              go_simp
            try simp only [Act.put, List.setIfInBounds_toArray, List.set_cons_zero, List.set_cons_succ]
            refine wpAnyH_takeK (i := 12) (d := 115) (.move (.tmp 114)) (.bool true) (by kernel_rfl) (by kernel_rfl) (by kernel_rfl) (by kernel_rfl) (fun _ _ _ h => h) ?_ (by assumption) ?_
            · intro o ho w _
              unfold execOp
              rw [ho]
              go_simp
            try simp only [Act.put, List.setIfInBounds_toArray, List.set_cons_zero, List.set_cons_succ]
            refine wpAnyH_skipK (i := 13) (d := 116) (by kernel_rfl) (by kernel_rfl) (by kernel_rfl) (by kernel_rfl) (fun _ _ _ h => h) (by assumption) ?_
            try simp only [Act.put, List.setIfInBounds_toArray, List.set_cons_zero, List.set_cons_succ]
            refine wpAnyH_skipK (i := 14) (d := 117) (by kernel_rfl) (by kernel_rfl) (by kernel_rfl) (by kernel_rfl) (fun _ _ _ h => h) (by assumption) ?_
            try simp only [Act.put, List.setIfInBounds_toArray, List.set_cons_zero, List.set_cons_succ]
            refine wpAnyH_skipK (i := 15) (d := 118) (by kernel_rfl) (by kernel_rfl) (by kernel_rfl) (by kernel_rfl) (fun _ _ _ h => h) (by assumption) ?_
            try simp only [Act.put, List.setIfInBounds_toArray, List.set_cons_zero, List.set_cons_succ]
            refine wpAnyH_skipK (i := 16) (d := 119) (by kernel_rfl) (by kernel_rfl) (by kernel_rfl) (by kernel_rfl) (fun _ _ _ h => h) (by assumption) ?_
            try simp only [Act.put, List.setIfInBounds_toArray, List.set_cons_zero, List.set_cons_succ]
            refine wpAnyH_skipK (i := 17) (d := 120) (by kernel_rfl) (by kernel_rfl) (by kernel_rfl) (by kernel_rfl) (fun _ _ _ h => h) (by assumption) ?_
            try simp only [Act.put, List.setIfInBounds_toArray, List.set_cons_zero, List.set_cons_succ]
            refine wpAnyH_skipK (i := 18) (d := 121) (by kernel_rfl) (by kernel_rfl) (by kernel_rfl) (by kernel_rfl) (fun _ _ _ h => h) (by assumption) ?_
            try simp only [Act.put, List.setIfInBounds_toArray, List.set_cons_zero, List.set_cons_succ]
            refine wpAnyH_takeK (i := 19) (d := 122) (.pick (.tmp 115) (.const (.bool true)) (.tmp 121)) (.bool true) (by kernel_rfl) (by kernel_rfl) (by kernel_rfl) (by kernel_rfl) (fun _ _ _ h => h) ?_ (by assumption) ?_
            · intro o ho w _
              unfold execOp
              rw [ho]
              go_simp
            try simp only [Act.put, List.setIfInBounds_toArray, List.set_cons_zero, List.set_cons_succ]
            refine wpAnyH_takeK (i := 20) (d := 123) (.pick (.tmp 112) (.tmp 122) (.const (.bool false))) (.bool true) (by kernel_rfl) (by kernel_rfl) (by kernel_rfl) (by kernel_rfl) (fun _ _ _ h => h) ?_ (by assumption) ?_
            · intro o ho w _
              unfold execOp
              rw [ho]
              go_simp
            try simp only [Act.put, List.setIfInBounds_toArray, List.set_cons_zero, List.set_cons_succ]
            refine wpAnyH_takeK (i := 21) (d := 6) (.assign (.tmp 123)) (.bool true) (by kernel_rfl) (by kernel_rfl) (by kernel_rfl) (by kernel_rfl) (fun _ _ _ h => h) ?_ (by assumption) ?_
            · intro o ho w _
              unfold execOp
              rw [ho]
              go_simp
            try simp only [Act.put, List.setIfInBounds_toArray, List.set_cons_zero, List.set_cons_succ]
            refine wpAnyH_done (by kernel_rfl) ?_ _
            go_wp2
            go_ret
            exact ⟨rfl, by rw [HBe.out]; exact H10.out.bel⟩
end Go.Proofs.YtfmnpepgmedfpaaGreatDoor
