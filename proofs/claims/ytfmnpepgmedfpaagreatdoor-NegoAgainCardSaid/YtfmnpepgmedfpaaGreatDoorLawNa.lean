/-
  The law NegoAgain, walked (its opening handed in).
-/
import Derived.Test.YtfmnpepgmedfpaaGreatDoorNaM
import Derived.BigQuiet
namespace Go.Proofs.YtfmnpepgmedfpaaGreatDoor
open Go.ChangeShapes Go.WideShapes Go.ChangeAt Go.RowKit
set_option linter.unusedVariables false
set_option linter.unusedSimpArgs false

theorem NgM.keptC {s : NgS} {os : List M.Opt} {C B : Nat} {w0 W0 W : World} (h : NgM s os C B w0 W0 W) : Kept [C] W0 W := by
  obtain ⟨v, g1, g2, g3, g4, g5, g6, g7, g8⟩ := h
  exact g8
theorem NgM.bel {s : NgS} {os : List M.Opt} {C B : Nat} {w0 W0 W : World} (h : NgM s os C B w0 W0 W) : Below B w0 W := by
  obtain ⟨v, g1, g2, g3, g4, g5, g6, g7, g8⟩ := h
  exact g5
set_option maxHeartbeats 16000000 in
set_option maxRecDepth 100000 in
theorem negoAgain_walk (sv : Bool) (fz : Int) (f1 : -9223372036854775808 ≤ fz) (f2 : fz ≤ 9223372036854775807) (s1 : ByteArray) (hs1 : s1.size ≤ maxLen) (tz : Int) (t1 : -9223372036854775808 ≤ tz) (t2 : tz ≤ 9223372036854775807) (w : World)
    (hbg : Calls Tryz.prog 15 #[] w fun e w' => e = .returned (.bool true) ∧ Below w.heap.size w w') :
    Calls Tryz.prog 11 #[.bool sv, .int .i64 fz, .string s1, .int .i64 tz] w fun e w' => e = .returned (.bool true) ∧ Below w.heap.size w w' := by
  have HBG := Lib.hid hbg
  obtain ⟨lv, hlv, ht1⟩ := text_cutN s1 16 (by decide) hs1
  have HT1 : Hid (∀ W, Calls Tryz.prog 27 #[.string s1, .int .i64 16] W fun e w' => e = .returned (.string (str lv)) ∧ W = w') := Lib.hid ht1
  obtain ⟨a, ha, a1, a2, J, hJ, hJ3⟩ := mod_atN fz 4 (by decide)
  obtain ⟨c, hc, c1, c2, K, hK, hK3⟩ := mod_atN tz 4 (by decide)
  obtain ⟨B, hB⟩ : ∃ B, w.heap.size = B := ⟨_, rfl⟩
  have q1 : IntKind.i64.wrap (a + 4) = a + 4 := by rw [IntKind.wrap_i64]; omega
  have q2 : wrap64 (a + 4) = a + 4 := by unfold wrap64; omega
  have r1 : IntKind.i64.wrap (c + 4) = c + 4 := by rw [IntKind.wrap_i64]; omega
  have r2 : wrap64 (c + 4) = c + 4 := by unfold wrap64; omega
  obtain ⟨F, hf, hrow⟩ : ∃ F : Nat, (F = 1 ∨ F = 3 ∨ F = 6 ∨ F = 8) ∧ ∀ h : J < [Value.int .i64 1, .int .i64 3, .int .i64 6, .int .i64 8].length, [Value.int .i64 1, .int .i64 3, .int .i64 6, .int .i64 8][J]'h = .int .i64 (F : Int) := by
    have h3 : J = 0 ∨ J = 1 ∨ J = 2 ∨ J = 3 := by omega
    rcases h3 with rfl | rfl | rfl | rfl
    · exact ⟨1, .inl rfl, fun _ => rfl⟩
    · exact ⟨3, .inr (.inl rfl), fun _ => rfl⟩
    · exact ⟨6, .inr (.inr (.inl rfl)), fun _ => rfl⟩
    · exact ⟨8, .inr (.inr (.inr rfl)), fun _ => rfl⟩
  have hJ4 : J < 4 := by omega
  have hK4 : K < 4 := by omega
  have HNEW : Hid (∀ sv W, Below B w W → Calls Tryz.prog 30 #[.bool sv] W fun e w' => ∃ C, e = .returned (.pointer (some ⟨C, 0, none⟩)) ∧ NgN (ngInit sv) C B w w' ∧ W.heap.size ≤ C ∧ Below W.heap.size W w') := Lib.hid (fun sv W h => (NgN.new sv B w W h (by omega)).mono fun e w' ⟨p1, p2, p3⟩ => ⟨_, p1, p2, Nat.le_refl _, p3⟩)
  have HBe := Lib.hid hB
  have HF := Lib.hid hf
  have HF4 : Hid ((F : Int) = 1 ∨ (F : Int) = 3 ∨ (F : Int) = 6 ∨ (F : Int) = 8) := Lib.hid (by omega)
  have hF9 : F < 256 := by rcases hf with h | h | h | h <;> omega
  have q3 : IntKind.u8.wrap (F : Int) = (F : Int) := by rw [IntKind.wrap_u8]; omega
  clear hbg ht1 hs1 hJ3 hK3 hf hB
  go_enter Tryz.func11, Tryz.ntmps11
  go_upto_region 7 with (first
    | (go_at_call 15; (with_reducible refine HBG.out.mono ?_); rintro e w0 ⟨rfl, hb0⟩)
    | (go_at_call 27; (with_reducible refine (HT1.out _).mono ?_); rintro e w1 ⟨rfl, rfl⟩)
    | (go_at_call 30; (with_reducible refine (HNEW.out _ _ (by rw [← HBe.out]; exact bel_trans hb0 (bel_alloc _ _))).mono ?_); rintro e w3 ⟨C, rfl, h3, -, -⟩))
  have H3 := Lib.hid h3
  clear HT1 HBG h3 hb0 hrow
  obtain ⟨b, hb⟩ : ∃ b, UInt8.ofNat F = b := ⟨_, rfl⟩
  have hbF : (b.toNat : Int) = (F : Int) := by rw [← hb]; simp; omega
  have HCV := Lib.hid (conv_one F hF9)
  rw [hb] at HCV
  have HBF := Lib.hid hbF
  have hcv := HCV.out w3
  obtain ⟨one, hone⟩ : ∃ one, str [b] = one := ⟨_, rfl⟩
  rw [hone] at hcv
  obtain ⟨X, hX⟩ : ∃ X, str (b :: lv) = X := ⟨_, rfl⟩
  have happ : one ++ str lv = X := by rw [← hone, ← hX]; rfl
  have ho1 : one.size = 1 := by rw [← hone]; rfl
  have hw1 : (str lv).size ≤ 16 := hlv
  have HX := Lib.hid hX
  have HONE := Lib.hid hone
  go_upto_region 8 with (fail)
  have H4 : Hid (NgN (ngInit sv) C B w (w3.alloc (.cells #[.int .u8 (F : Int)] 5))) := Lib.hid (H3.out.kept ((Kept.refl [] w3).alloc _))
  clear H3 hcv HCV hb hbF hX hone ha hJ q1 q2 q3
  generalize w3.alloc (.cells #[.int .u8 (F : Int)] 5) = w4 at *
  have hS : ∃ S1 sy, (ngInit sv).settled (F : Int) lv = S1 ∧ (ngInit sv).says (F : Int) lv = sy := ⟨_, _, rfl, rfl⟩
  obtain ⟨S1, sy, hS1, hsy⟩ := hS
  have hsl : sy.length ≤ 32 := by rw [← hsy]; exact (ngInit_ok sv).says _ _
  have has1 : S1.asks = [] := by rw [← hS1]; exact na_asks sv _ lv
  obtain ⟨Y, hY⟩ : ∃ Y, str (b :: sy) = Y := ⟨_, rfl⟩
  have HTK : Hid (∀ s W, (s = ngInit sv ∨ s = S1) → NgN s C B w W → Calls Tryz.prog 31 #[.pointer (some ⟨C, 0, none⟩), .slice (some ⟨W.heap.size, 0, none⟩) 1 1] (W.alloc (.cells #[.int .i64 32, .string X] 57)) fun e w' => e = .returned (.bool true) ∧ NgM S1 [⟨35, b :: sy⟩] C B w W w') := Lib.hid (fun s W hs h => by
    have h9 := h.one ⟨32, b :: lv⟩ (by simp; omega)
    rw [na_take sv (F : Int) b HBF.out lv s (by rw [hS1]; exact hs), hS1, hsy] at h9
    unfold OvBox at h9
    dsimp only at h9
    rw [HX.out] at h9
    exact h9)
  have HOP : Hid (∀ W0 W, NgM S1 [⟨35, b :: sy⟩] C B w W0 W → C < W0.heap.size → B ≤ W0.heap.size → Calls Tryz.prog 39 #[.pointer (some ⟨C, 0, none⟩)] W fun e w' => ∃ g cap, e = .returned (.slice (some ⟨g, 0, none⟩) 1 cap) ∧ LstAt (.slice (some ⟨g, 0, none⟩) 1 cap) [⟨35, b :: sy⟩] C B w' ∧ NgN S1 C B w w' ∧ Kept [C] W0 w' ∧ w'.cell? ⟨g, 0, none⟩ = some (.int .i64 35) ∧ w'.cell? ⟨g, 1, none⟩ = some (.string Y)) := Lib.hid (fun W0 W h h1 h2 => by
    refine (h.opts (by simp) h1 h2).mono ?_
    rintro e w' ⟨v, rfl, p1, p2, p3⟩
    rw [has1, List.append_nil] at p1
    obtain ⟨g, cap, rfl, p4, p5, p6, p7⟩ := p1.one
    rw [← hY]
    exact ⟨g, cap, rfl, p1, p2, p3, p5, p6⟩)
  have HYS : Hid (∀ W, (Instr.slice 9 (.string Y) none (some (.int .i64 1)) none).run Tryz.prog W = .ok (.string one) W) := Lib.hid (fun W => by
    have h9 := str_pre (b :: sy) 1 (by simp) (by simp; omega) W
    rw [show (b :: sy).take 1 = [b] from rfl, HONE.out, hY] at h9
    exact h9)
  have HS1 := Lib.hid hS1
  have HSY := Lib.hid hsy
  have HY := Lib.hid hY
  have hy1 : 1 ≤ Y.size := by rw [← hY]; exact (str_head b sy).1
  clear hS1 hsy hY hsl has1
  obtain ⟨o35, ho35⟩ : ∃ o : M.Opt, (⟨35, b :: sy⟩ : M.Opt) = o := ⟨_, rfl⟩
  rw [ho35] at HTK HOP
  have HO := Lib.hid ho35
  clear ho35
  go_wp2
  go_loopw [12, 13] (fun u iv wr => ∃ k : Nat, iv = .int .i64 (k : Int) ∧ k ≤ K + 1 ∧ (k = 0 ∧ u = .slice none 0 0 ∨ 0 < k ∧ ∃ g cap, u = .slice (some ⟨g, 0, none⟩) 1 cap ∧ Hid (LstAt (.slice (some ⟨g, 0, none⟩) 1 cap) [o35] C B wr) ∧ Hid (wr.cell? ⟨g, 0, none⟩ = some (.int .i64 35) ∧ wr.cell? ⟨g, 1, none⟩ = some (.string Y))) ∧ Hid (∃ s, (s = ngInit sv ∨ s = S1) ∧ (0 < k → s = S1) ∧ NgN s C B w wr)) (fun _ iv _ => K + 1 - (intOf iv).toNat)
  case atStart => exact ⟨0, rfl, Nat.zero_le _, .inl ⟨rfl, rfl⟩, Lib.hid ⟨_, .inl rfl, fun h => absurd h (Nat.lt_irrefl _), H4.out⟩⟩
  case round =>
    obtain ⟨k, rfl, hk, hu, hN⟩ := hrel
    by_cases hkn : k ≤ K
    · have d9 : decide ((k : Int) ≤ (K : Int)) = true := decide_eq_true (by omega)
      obtain ⟨s, hs, hs0, hn⟩ := hN.out
      have HCB : Hid (C < wr.heap.size ∧ B ≤ wr.heap.size) := Lib.hid ⟨hn.1.lt, by have := hn.1.lt; have := hn.2.1; omega⟩
      have HTK1 := Lib.hid (HTK.out s wr hs hn)
      clear hs hs0 hn hN
      rcases hu with ⟨rfl, rfl⟩ | ⟨hk0, g0, cap0, rfl, hL, hcl⟩
      · go_upto_region 15 with (first
          | (go_at_call 31; (with_reducible refine HTK1.out.mono ?_); rintro e w5 ⟨rfl, h5⟩; have H5 := Lib.hid h5; clear h5)
          | (go_at_call 39; (with_reducible refine (HOP.out _ _ H5.out HCB.out.1 HCB.out.2).mono ?_); rintro e w6 ⟨g6, cap6, rfl, p1, p2, p3, e0, e1⟩; have P1 := Lib.hid p1; have P2 := Lib.hid p2; have P3 := Lib.hid p3; have E01 := Lib.hid (And.intro e0 e1); clear p1 p2 p3))
        have hys := HYS.out
        go_quiet (fail)
        go_wp2
        refine ⟨⟨0 + 1, by go_num, by omega, .inr ⟨by omega, g6, cap6, rfl, Lib.hid (P1.out.kept ((Kept.refl [] w6).drewN _) (fun x hx => by cases hx)), E01⟩, Lib.hid ⟨S1, .inr rfl, fun _ => rfl, P2.out.kept ((Kept.refl [] w6).drewN _)⟩⟩, ?_⟩
        simp [intOf]
      · obtain ⟨m, rfl⟩ : ∃ m, k = m + 1 := ⟨k - 1, by omega⟩
        have d8 : decide ((0 : Int) < (m : Int) + 1) = true := decide_eq_true (by omega)
        have d9' : decide ((m : Int) + 1 ≤ (K : Int)) = true := decide_eq_true (by omega)
        have HG0 : Hid (g0 < wr.heap.size ∧ g0 ≠ C) := Lib.hid ⟨hL.out.1.lt g0 rfl, (hL.out.2 g0 rfl).2⟩
        go_upto_region 15 with (first
          | (go_at_call 31; (with_reducible refine HTK1.out.mono ?_); rintro e w5 ⟨rfl, h5⟩; have H5 := Lib.hid h5; clear h5)
          | (go_at_call 39; (with_reducible refine (HOP.out _ _ H5.out HCB.out.1 HCB.out.2).mono ?_); rintro e w6 ⟨g6, cap6, rfl, p1, p2, p3, e0, e1⟩; have P1 := Lib.hid p1; have P2 := Lib.hid p2; have P3 := Lib.hid p3; have E01 := Lib.hid (And.intro e0 e1); clear p1 p2 p3))
        have HQ : Hid (w6.cell? ⟨g0, 0, none⟩ = some (.int .i64 35) ∧ w6.cell? ⟨g0, 1, none⟩ = some (.string Y)) := Lib.hid ⟨(P3.out.cellN HG0.out.1 (by simpa using HG0.out.2)).trans hcl.out.1, (P3.out.cellN HG0.out.1 (by simpa using HG0.out.2)).trans hcl.out.2⟩
        have hq0 := HQ.out.1
        have hq1 := HQ.out.2
        have hys := HYS.out
        go_quiet (fail)
        go_wp2
        refine ⟨⟨m + 1 + 1, by go_num, by omega, .inr ⟨by omega, g6, cap6, rfl, Lib.hid (P1.out.kept ((Kept.refl [] w6).drewN _) (fun x hx => by cases hx)), E01⟩, Lib.hid ⟨S1, .inr rfl, fun _ => rfl, P2.out.kept ((Kept.refl [] w6).drewN _)⟩⟩, ?_⟩
        simp [intOf]; omega
    · obtain rfl : k = K + 1 := by omega
      have d9 : decide (((K + 1 : Nat) : Int) ≤ (K : Int)) = false := decide_eq_false (by omega)
      have d9' : decide ((K : Int) + 1 ≤ (K : Int)) = false := decide_eq_false (by omega)
      rcases hu with ⟨h0, _⟩ | ⟨hk0, g0, cap0, rfl, hL, hcl⟩
      · omega
      · obtain ⟨s, hs, hs0, hn⟩ := hN.out
        have HN : Hid (NgN S1 C B w wr) := Lib.hid (by rw [← hs0 hk0]; exact hn)
        clear hs hs0 hn hN HTK HOP H4 hk hkn hk0
        have e0 := hcl.out.1
        have e1 := hcl.out.2
        have HMY := Lib.hid (fun W => ftMay_any (F : Int) lv (by omega) W)
        cases hm : ftMay (F : Int) lv with
        | false =>
          rw [hm] at HMY
          have hp : (ngInit sv).pick (F : Int) lv = none := by
            unfold NgS.pick
            rw [if_neg (by rw [hm]; decide)]
          have HY1 : Hid (Y = one) := Lib.hid (by
            rw [← HY.out, ← HONE.out, ← HSY.out]
            unfold NgS.says
            rw [hp])
          have HTH : Hid (∀ W, NgN S1 C B w W → Calls Tryz.prog 37 #[.pointer (some ⟨C, 0, none⟩), .int .i64 (F : Int)] W fun e w' => e = .returned (.string (str (ftDefault (F : Int)))) ∧ ∃ n, w' = W.drewN n) := Lib.hid (fun W h => by
            have h9 := h.theirs (F : Int)
            have e : S1 = ngInit sv := by
              rw [← HS1.out]
              unfold NgS.settled
              rw [hp]
            rw [if_pos (by rcases HF.out with rfl | rfl | rfl | rfl <;> rfl), e] at h9
            exact h9)
          have HDF := Lib.hid (fun W => ftDefault_any (F : Int) W)
          generalize str (ftDefault (F : Int)) = D at *
          have hy1e := HY1.out
          subst hy1e
          clear hp hm
          go_wp2_with (first
            | (go_at_call 29; (with_reducible refine (HMY.out _).mono ?_); rintro e w7 ⟨rfl, n7, rfl⟩)
            | (go_at_call 37; (with_reducible refine (HTH.out _ (HN.out.kept ((Kept.refl [] wr).drewN _))).mono ?_); rintro e w8 ⟨rfl, n8, rfl⟩)
            | (go_at_call 33; (with_reducible refine (HDF.out _).mono ?_); rintro e w9 ⟨rfl, hb9⟩))
          go_ret
          exact ⟨rfl, by rw [HBe.out]; exact ((HN.out.kept ((Kept.refl [] wr).drewN _)).kept (Kept.of_below [] hb9)).2.2.1⟩
        | true =>
          rw [hm] at HMY
          obtain ⟨M, k1, k2, k3, k4, k5, k6⟩ := na_confirm sv (F : Int) HF4.out b HBF.out lv hm
          rw [HSY.out, HO.out] at k1 k2
          rw [HS1.out] at k4
          have hkf : ftKnown (F : Int) = true := ftMay_known hm
          have HOL : Hid (o35.d.length ≤ 1000000) := Lib.hid (by rw [← HO.out]; show (b :: sy).length ≤ _; rw [← HSY.out]; have := (ngInit_ok sv).says (F : Int) lv; simp; omega)
          obtain ⟨Z, hZ⟩ : ∃ Z, str (M.mine (F : Int)) = Z := ⟨_, rfl⟩
          have HL := hL
          have HWT : Hid (∀ C2 W, NgN (ngInit (!sv)) C2 B w W → Calls Tryz.prog 34 #[.pointer (some ⟨C2, 0, none⟩), .int .i64 (F : Int), .string (str lv)] W fun e w' => e = .returned (.int .i64 0) ∧ NgN { ngInit (!sv) with want := upd (ngInit (!sv)).want (F : Int) lv } C2 B w w' ∧ Kept [C2] W w') := Lib.hid (fun C2 W h => h.want (F : Int) lv hm)
          have HT1 : Hid (∀ C2 W, g0 ≠ C2 → g0 < W.heap.size → B ≤ W.heap.size → OpRow (.slice (some ⟨g0, 0, none⟩) 1 cap0) [o35] W → NgN { ngInit (!sv) with want := upd (ngInit (!sv)).want (F : Int) lv } C2 B w W → Calls Tryz.prog 31 #[.pointer (some ⟨C2, 0, none⟩), .slice (some ⟨g0, 0, none⟩) 1 cap0] W fun e w' => e = .returned (.bool true) ∧ NgM M [] C2 B w W w') := Lib.hid (fun C2 W h1 h2 h3 h4 h => by
            have h9 := h.hand (.slice (some ⟨g0, 0, none⟩) 1 cap0) [o35] h4 (by intro o ho; rw [List.mem_singleton.1 ho]; exact HOL.out) (by simp) (fun e => h1 (by simpa [Value.ownBlock] using e))
            rw [k1] at h9
            exact h9)
          have HT2 : Hid (∀ C2 W0 W, g0 ≠ C2 → g0 < W0.heap.size → B ≤ W0.heap.size → OpRow (.slice (some ⟨g0, 0, none⟩) 1 cap0) [o35] W → NgM M [] C2 B w W0 W → Calls Tryz.prog 31 #[.pointer (some ⟨C2, 0, none⟩), .slice (some ⟨g0, 0, none⟩) 1 cap0] W fun e w' => e = .returned (.bool true) ∧ NgM M [] C2 B w W0 w') := Lib.hid (fun C2 W0 W h1 h2 h3 h4 h => by
            have h9 := h.hand (.slice (some ⟨g0, 0, none⟩) 1 cap0) [o35] h4 (by intro o ho; rw [List.mem_singleton.1 ho]; exact HOL.out) (by simp) (fun e => h1 (by simpa [Value.ownBlock] using e)) h3 (fun g hg => by
              have e : g0 = g := by simpa [Value.ownBlock] using hg
              rw [← e]; exact h2)
            rw [k2] at h9
            exact h9)
          have HDN : Hid (∀ C2 W0 W, NgM M [] C2 B w W0 W → Calls Tryz.prog 35 #[.pointer (some ⟨C2, 0, none⟩)] W fun e w' => e = .returned (.bool true) ∧ NgM M [] C2 B w W0 w') := Lib.hid (fun C2 W0 W h => by
            have h9 := h.done
            rw [k3] at h9
            exact h9.mono fun e w' ⟨p1, p2⟩ => ⟨p1, h.kept (Kept.of_below [] p2)⟩)
          have HMN : Hid (∀ C2 W0 W, NgM M [] C2 B w W0 W → Calls Tryz.prog 32 #[.pointer (some ⟨C2, 0, none⟩), .int .i64 (F : Int)] W fun e w' => e = .returned (.string Z) ∧ ∃ n, w' = W.drewN n) := Lib.hid (fun C2 W0 W h => by
            have h9 := h.mine (F : Int)
            rw [if_pos hkf, hZ] at h9
            exact h9)
          have HTH : Hid (∀ W, NgN S1 C B w W → Calls Tryz.prog 37 #[.pointer (some ⟨C, 0, none⟩), .int .i64 (F : Int)] W fun e w' => e = .returned (.string Z) ∧ ∃ n, w' = W.drewN n) := Lib.hid (fun W h => by
            have h9 := h.theirs (F : Int)
            rw [if_pos hkf, ← k4, hZ] at h9
            exact h9)
          have HZ3 : Hid (F = 3 → Z = str lv) := Lib.hid (fun h => by rw [← hZ, k5 (by omega)])
          have HZ1 : Hid (F ≠ 3 → Z.size = 1) := Lib.hid (fun h => by rw [← hZ]; exact k6 (by omega))
          have HGW : Hid (g0 < wr.heap.size ∧ C < wr.heap.size ∧ B ≤ wr.heap.size) := Lib.hid ⟨hL.out.1.lt g0 rfl, HN.out.1.lt, by have := HN.out.1.lt; have := HN.out.2.1; omega⟩
          have HND : Hid (∀ n, Below B w (wr.drewN n)) := Lib.hid (fun n => (HN.out.kept ((Kept.refl [] wr).drewN n)).2.2.1)
          clear k1 k2 k3 k4 k5 k6 hZ hm hkf
          go_upto_region 21 with (first
            | (go_at_call 29; (with_reducible refine (HMY.out _).mono ?_); rintro e w7 ⟨rfl, n7, rfl⟩)
            | (go_at_call 30; (with_reducible refine (HNEW.out _ _ (HND.out _)).mono ?_); rintro e w8 ⟨C2, rfl, h8, hC2, hb8⟩; have H8 := Lib.hid h8; have HC2 := Lib.hid hC2; have HB8 := Lib.hid hb8; clear h8 hC2 hb8))
          have HL8 : Hid (OpRow (.slice (some ⟨g0, 0, none⟩) 1 cap0) [o35] w8) := Lib.hid ((HL.out.1.kept ((Kept.refl [] wr).drewN _) (fun _ _ h => by cases h)).kept (Kept.of_below [] HB8.out) (fun _ _ h => by cases h))
          have HN8 : Hid (NgN S1 C B w w8) := Lib.hid ((HN.out.kept ((Kept.refl [] wr).drewN _)).kept (Kept.of_below [] HB8.out))
          have HAP : Hid (g0 ≠ C2 ∧ C ≠ C2 ∧ B ≤ C2 ∧ g0 < w8.heap.size ∧ B ≤ w8.heap.size) := Lib.hid (by
            have e1 := HC2.out
            have e2 := HGW.out
            have e3 := HB8.out.size
            have e4 : (wr.drewN n7).heap.size = wr.heap.size := rfl
            have e5 := H8.out.1.lt
            refine ⟨?_, ?_, ?_, ?_, ?_⟩ <;> omega)
          have HL9 : ∀ {w9}, Kept [C2] w8 w9 → OpRow (.slice (some ⟨g0, 0, none⟩) 1 cap0) [o35] w9 := fun k => HL8.out.kept k (fun g hg hm => by
            have e : g0 = g := by simpa [Value.ownBlock] using hg
            rw [List.mem_singleton.1 hm] at e
            exact HAP.out.1 e)
          have HL10 : ∀ {w9 w10}, Kept [C2] w8 w9 → NgM M [] C2 B w w9 w10 → OpRow (.slice (some ⟨g0, 0, none⟩) 1 cap0) [o35] w10 := fun k h => HL9 (k.trans' h.keptC)
          have HSZ9 : ∀ {w9}, Kept [C2] w8 w9 → g0 < w9.heap.size ∧ B ≤ w9.heap.size := fun k => by have := k.size; have := HAP.out; omega
          have HNN : ∀ {w9 w12}, Kept [C2] w8 w9 → NgM M [] C2 B w w9 w12 → NgN S1 C B w w12 := fun k h => (HN8.out.apart k HAP.out.2.1 HAP.out.2.2.1).apart h.keptC HAP.out.2.1 HAP.out.2.2.1
          by_cases h3 : F = 3
          · have b3 : ((F : Int) == 3) = true := by rw [h3]; rfl
            have hz := HZ3.out h3
            subst hz
            clear h3 HZ1 HZ3
            go_wp2_with (first
              | (go_at_call 34; (with_reducible refine (HWT.out _ _ H8.out).mono ?_); rintro e w9 ⟨rfl, h9, k9⟩; have H9 := Lib.hid h9; have K9 := Lib.hid k9; clear h9 k9)
              | (go_at_call 31; (first
                | ((with_reducible refine (HT2.out _ _ _ HAP.out.1 (HSZ9 K9.out).1 (HSZ9 K9.out).2 (HL10 K9.out H10.out) H10.out).mono ?_); rintro e w11 ⟨rfl, h11⟩; have H11 := Lib.hid h11; clear h11)
                | ((with_reducible refine (HT1.out _ _ HAP.out.1 (HSZ9 K9.out).1 (HSZ9 K9.out).2 (HL9 K9.out) H9.out).mono ?_); rintro e w10 ⟨rfl, h10⟩; have H10 := Lib.hid h10; clear h10)))
              | (go_at_call 35; (with_reducible refine (HDN.out _ _ _ H11.out).mono ?_); rintro e w12 ⟨rfl, h12⟩; have H12 := Lib.hid h12; have HN12 := Lib.hid (HNN K9.out h12); clear h12)
              | (go_at_call 32; (first
                | ((with_reducible refine (HMN.out _ _ _ H12.out).mono ?_); rintro e w13 ⟨rfl, n13, rfl⟩)
                | ((with_reducible refine (HMN.out _ _ _ (H12.out.kept ((Kept.refl [] w12).drewN _))).mono ?_); rintro e w14 ⟨rfl, n14, rfl⟩)))
              | (go_at_call 37; (with_reducible refine (HTH.out _ (HN12.out.kept ((Kept.refl [] w12).drewN _))).mono ?_); rintro e w15 ⟨rfl, n15, rfl⟩))
            go_ret
            exact ⟨rfl, by rw [HBe.out]; exact (H12.out.kept ((Kept.refl [] w12).drewN _)).bel⟩
          · have b3 : ((F : Int) == 3) = false := by rw [beq_eq_false_iff_ne]; omega
            have hz := HZ1.out h3
            have b3n : (F == 3) = false := by rw [beq_eq_false_iff_ne]; exact h3
            have h3i : ¬ (F : Int) = 3 := by omega
            have HB3 : Hid (((F : Int) != 3) = true) := Lib.hid (by simp; omega)
            clear HZ1 HZ3
            go_wp2_with (first
              | (go_at_call 34; (with_reducible refine (HWT.out _ _ H8.out).mono ?_); rintro e w9 ⟨rfl, h9, k9⟩; have H9 := Lib.hid h9; have K9 := Lib.hid k9; clear h9 k9)
              | (go_at_call 31; (first
                | ((with_reducible refine (HT2.out _ _ _ HAP.out.1 (HSZ9 K9.out).1 (HSZ9 K9.out).2 (HL10 K9.out H10.out) H10.out).mono ?_); rintro e w11 ⟨rfl, h11⟩; have H11 := Lib.hid h11; clear h11)
                | ((with_reducible refine (HT1.out _ _ HAP.out.1 (HSZ9 K9.out).1 (HSZ9 K9.out).2 (HL9 K9.out) H9.out).mono ?_); rintro e w10 ⟨rfl, h10⟩; have H10 := Lib.hid h10; clear h10)))
              | (go_at_call 35; (with_reducible refine (HDN.out _ _ _ H11.out).mono ?_); rintro e w12 ⟨rfl, h12⟩; have H12 := Lib.hid h12; have HN12 := Lib.hid (HNN K9.out h12); clear h12)
              | (go_at_call 32; (first
                | ((with_reducible refine (HMN.out _ _ _ H12.out).mono ?_); rintro e w13 ⟨rfl, n13, rfl⟩)
                | ((with_reducible refine (HMN.out _ _ _ (H12.out.kept ((Kept.refl [] w12).drewN _))).mono ?_); rintro e w14 ⟨rfl, n14, rfl⟩)))
              | (go_at_call 37; (with_reducible refine (HTH.out _ (HN12.out.kept ((Kept.refl [] w12).drewN _))).mono ?_); rintro e w15 ⟨rfl, n15, rfl⟩))
            go_ret
            exact ⟨congrArg (fun x => Ending.returned (.bool x)) HB3.out, by rw [HBe.out]; exact (H12.out.kept ((Kept.refl [] w12).drewN _)).bel⟩
end Go.Proofs.YtfmnpepgmedfpaaGreatDoor
