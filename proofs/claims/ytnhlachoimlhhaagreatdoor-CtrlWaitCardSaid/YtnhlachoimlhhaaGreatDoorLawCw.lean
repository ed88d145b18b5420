/-
  The law CtrlWait, walked (its opening handed in).
-/
import Derived.Test.YtnhlachoimlhhaaGreatDoorCtW
namespace Go.Proofs.YtnhlachoimlhhaaGreatDoor
open Go.ChangeShapes Go.WideShapes Go.ChangeAt Go.RowKit
set_option linter.unusedVariables false
set_option linter.unusedSimpArgs false

/-- The bucket of a leader by a rate. -/
def pb (R h : Nat) (a : Int) : PcS := ⟨89600000000, 10000, R, h, a⟩
theorem pb_ok (R h : Nat) (a : Int) (h1 : R ≤ 89600) (h2 : h ≤ 18446744073709551615) (h3 : 0 ≤ a ∧ a ≤ 4611686018427387904) : (pb R h a).Ok := ⟨(by decide : 89600000000 ≤ 89600000000), (by decide : 10000 ≤ 1000000), by show R < _; omega, by show h < _; omega, h3⟩
theorem pb_cap (R h : Nat) (a : Int) (h1 : R ≤ 89600) : (pb R h a).cap = 89600000000 := by
  unfold PcS.cap
  show max 89600000000 (M.mulT R 10000) = _
  rw [M.mulT_at _ _ (by omega)]
  omega
theorem pb_fill (R h : Nat) (a b : Int) (h1 : R ≤ 89600) (h2 : h ≤ 89600000000) (ha : 0 ≤ a) (hb : b ≤ 4611686018427387904) (D : Nat) (hD : D ≤ 100000000000) (e : max a b = a + (D : Int)) : (pb R h a).fill b = pb R (min (h + R * D) 89600000000) (a + (D : Int)) := by
  have e1 : (pb R h a).at_ b = a + (D : Int) := by
    unfold PcS.at_
    show max a (min b 4611686018427387904) = _
    omega
  unfold PcS.fill
  rw [e1]
  unfold PcS.to
  rw [pb_cap R h a h1]
  show PcS.mk 89600000000 10000 R (min (M.addT h (M.mulT R (a + (D : Int) - a).toNat)) 89600000000) (a + (D : Int)) = _
  have hm : R * D ≤ 89600 * 100000000000 := Nat.mul_le_mul h1 hD
  rw [show (a + (D : Int) - a).toNat = D by omega, M.mulT_at _ _ (by omega), M.addT_at _ _ (by omega)]
  rfl
theorem pb_has (R h : Nat) (a : Int) (n : Nat) (hn : n ≤ 65535) : (pb R h a).has n = decide (64000000 * n ≤ h) := PcS.has_in _ n hn
theorem pb_took (R h : Nat) (a : Int) (n : Nat) (hn : n ≤ 65535) (h1 : 64000000 * n ≤ h) : (pb R h a).took n = pb R (h - 64000000 * n) a := by
  unfold PcS.took
  rw [pb_has R h a n hn, decide_eq_true h1, if_pos rfl, Int.toNat_natCast]
  rfl
/-- What the first call makes of it at 0. -/
theorem pb_first (S : Nat) (h1 : S ≤ 1400) (h0 : 1 ≤ S) : crM (tfFirst S) pcFirst 0 0 = pb (64 * S) 0 0 := by
  unfold crM crP
  have hr : (tfFirst S).rate = 64 * S := rfl
  rw [hr, if_neg (by omega)]
  have e : (pcFirst.fill 0).rated (64 * S) = pb (64 * S) 0 0 := by
    have e1 : pcFirst.fill 0 = pb 0 0 0 := pb_fill 0 0 0 0 (by decide) (by decide) (by decide) (by decide) 0 (by decide) (by decide)
    rw [e1]
    show PcS.mk 89600000000 10000 (64 * S) (min 0 _) 0 = _
    rw [Nat.zero_min]
    rfl
  rw [e, pb_fill (64 * S) 0 0 0 (by omega) (by decide) (by decide) (by decide) 0 (by decide) (by decide)]
  simp
theorem crM_same (t : TfS) (p : PcS) (now : Int) : crM t p t.rate now = p.fill now := by unfold crM crP; rw [if_pos rfl]
theorem CrAt.apart {t : TfS} {l : List Pr} {p : PcS} {g K C P B Z : Nat} {v : Value} {S : List Nat} {w w' : World} (h : CrAt t l p g K C P B v w) (k : Kept S w w') (hz : Z ≤ K ∧ Z ≤ C ∧ Z ≤ P ∧ Z ≤ B ∧ ∀ q, v.ownBlock = some q → Z ≤ q) (hS : ∀ x ∈ S, x < Z) : CrAt t l p g K C P B v w' :=
  h.kept k (fun hm => by have := hS _ hm; omega) (fun hm => by have := hS _ hm; omega) (fun hm => by have := hS _ hm; omega) (fun hm => by have := hS _ hm; omega) (fun q hq hm => by have := hS _ hm; have := hz.2.2.2.2 q hq; omega)
theorem winSent3 (s : WinS) (hs : s.ok) (n : Nat) (hn : n < 18446744073709551616) (d : Int) (hp : s.pipe < 1000) : (s.sent n d).ok ∧ (s.sent n d).pipe = s.pipe + 1 ∧ (s.sent n d).cwnd = s.cwnd := by
  obtain ⟨a, b, c, e, f, g⟩ := hs
  unfold WinS.sent
  split
  · exact ⟨⟨a, b, by simp only; omega, e, hn, g⟩, rfl, rfl⟩
  · exact ⟨⟨a, b, by simp only; omega, e, hn, g⟩, rfl, rfl⟩
set_option maxHeartbeats 16000000 in
set_option maxRecDepth 100000 in
theorem ctrlWait_walk (sz nz : Int) (s1 : -9223372036854775808 ≤ sz) (s2 : sz ≤ 9223372036854775807) (n1 : -9223372036854775808 ≤ nz) (n2 : nz ≤ 9223372036854775807) (w : World)
    (hbg : Calls Tryz.prog 14 #[] w fun e w' => e = .returned (.bool true) ∧ Below w.heap.size w w') :
    Calls Tryz.prog 7 #[.int .i64 sz, .int .i64 nz] w fun e w' => e = .returned (.bool true) ∧ Below w.heap.size w w' := by
  have HBG := Lib.hid hbg
  clear hbg
  obtain ⟨u0, e0, e01, e02, S0, e03, e04⟩ := mod_at sz 1400 (by decide)
  obtain ⟨v0, f0, f01, f02, n0, f03, f04⟩ := mod_at nz 1400 (by decide)
  obtain ⟨S, hS⟩ : ∃ S : Nat, 1 + (S0 : Int) = (S : Int) := ⟨1 + S0, by omega⟩
  obtain ⟨n, hn⟩ : ∃ n : Nat, 1 + (n0 : Int) = (n : Int) := ⟨1 + n0, by omega⟩
  have hS1 : 1 ≤ S := by omega
  have hS2 : S ≤ 1400 := by omega
  have hn1 : 1 ≤ n := by omega
  have hn2 : n ≤ 1400 := by omega
  have HOW : Hid (∀ W, Calls Tryz.prog 30 #[.int .i64 2, .int .i64 S] W fun e w' => ∃ K C D, e = .returned (cwV K) ∧ CwAt WinS.init RttS.zero K C D w' ∧ W.heap.size ≤ K ∧ W.heap.size ≤ C ∧ W.heap.size ≤ D ∧ Below W.heap.size W w') := Lib.hid (fun W => ctOf_win S (by omega) (by omega) W)
  have HOR := Lib.hid (fun W => ctOf_rate S hS1 hS2 W)
  go_enter Tryz.func7, Tryz.ntmps7
  go_upto_region 6 with (first
    | (go_at_call 14; (with_reducible refine HBG.out.mono ?_); rintro e w0 ⟨rfl, hb0⟩)
    | (go_at_call 30; (with_reducible refine (HOW.out _).mono ?_); rintro e w1 ⟨Ka, Ca, Da, rfl, ha, hKa, hCa, hDa, hb1⟩)
    | (go_at_call 30; (with_reducible refine (HOR.out _).mono ?_); rintro e w2 ⟨K, C, P, B, v, rfl, hr, hK, hC, hP, hB, hv, hb2⟩))
  have HA : Hid (CwAt WinS.init RttS.zero Ka Ca Da w2) := Lib.hid (ha.below hb2)
  have HR := Lib.hid hr
  have HBL : Hid (Below w.heap.size w w2) := Lib.hid (bel_trans (bel_trans hb0 hb1) hb2)
  have HAL : Hid ((w.heap.size ≤ Ka ∧ w.heap.size ≤ Ca ∧ w.heap.size ≤ Da) ∧ Ka < w1.heap.size ∧ Ca < w1.heap.size ∧ Da < w1.heap.size) := Lib.hid (by
    have s0 := hb0.size
    have := ha.blk.lt
    have := ha.win.win.lt
    have := BlkIs.lt ha.win.rtt
    omega)
  have HZ : Hid (w1.heap.size ≤ K ∧ w1.heap.size ≤ C ∧ w1.heap.size ≤ P ∧ w1.heap.size ≤ B ∧ ∀ q, v.ownBlock = some q → w1.heap.size ≤ q) := Lib.hid ⟨hK, hC, hP, hB, hv⟩
  have HZ0 : Hid (w.heap.size ≤ w1.heap.size) := Lib.hid (by have := hb0.size; have := hb1.size; omega)
  clear ha hr hb0 hb1 hb2 hKa hCa hDa hK hC hP hB hv HOW HOR HBG
  generalize w1.heap.size = Z at *
  unfold cwV crV at *
  have q1 := eqW_N
  have q2 := eqR_N
  have q3 := naW_May
  have q4 := meW_May
  have q5 := naW_Sent
  have q6 := meW_Sent
  have q7 := naR_May
  have q8 := meR_May
  have q9 := naR_Sent
  have q10 := meR_Sent
  go_wp2
  go_loopw [8] (fun i wr => ∃ (k : Nat) (s : WinS), i = .int .i64 (k : Int) ∧ k ≤ 3 ∧ Hid (s.ok ∧ s.pipe = (k : Int) ∧ s.cwnd = 3) ∧ Hid (CwAt s RttS.zero Ka Ca Da wr) ∧ Hid (CrAt (tfFirst S) [(0, 18446744073709551615)] pcFirst 0 K C P B v wr) ∧ Hid (Below w.heap.size w wr)) (fun i _ => 3 - (intOf i).toNat)
  case atStart => exact ⟨0, WinS.init, rfl, by decide, Lib.hid ⟨WinS.ok_init, rfl, rfl⟩, HA, HR, HBL⟩
  case round =>
    obtain ⟨k, s, rfl, hk, hs, ha, hr, hb⟩ := hrel
    by_cases hkJ : k < 3
    · have hdk : decide ((k : Int) < 3) = true := decide_eq_true (by omega)
      have hpc : decide (s.pipe < s.cwnd) = true := decide_eq_true (by have := hs.out; omega)
      have HM : Hid (Calls Tryz.prog 356 #[.pointer (some ⟨Ka, 0, none⟩), .int .i64 0, .int .i64 n] wr fun e w' => e = .returned (.bool true) ∧ ∃ j, w' = wr.drewN j) := Lib.hid (by
        have h9 := cwMay_any ha.out 0 n
        rw [hpc] at h9
        exact h9)
      have HS : Hid (∀ j, Calls Tryz.prog 357 #[.pointer (some ⟨Ka, 0, none⟩), .int .i64 0, .int .u64 k, .int .i64 n] (wr.drewN j) fun e w' => e = .returned (.bool true) ∧ CwAt (s.sent k (M.winDue 0 RttS.zero.rto)) RttS.zero Ka Ca Da w' ∧ Kept [Ca] (wr.drewN j) w') := Lib.hid (fun j => cwSent_yes (ha.out.drewN j) hs.out.1 (by have := hs.out; omega) RttS.ok_zero k (by omega) 0 (by decide) n)
      have hwr : IntKind.u64.wrap (k : Int) = (k : Int) := by rw [IntKind.wrap_u64]; omega
      go_wp2_with (first
        | (go_at_call 356; (with_reducible refine HM.out.mono ?_); rintro e w3 ⟨rfl, j, rfl⟩)
        | (go_at_call 357; (with_reducible refine (HS.out _).mono ?_); rintro e w4 ⟨rfl, h4, k4⟩))
      have hn9 := winSent3 s hs.out.1 k (by omega) (M.winDue 0 RttS.zero.rto) (by have := hs.out; omega)
      refine ⟨⟨k + 1, _, by go_num, by omega, Lib.hid ⟨hn9.1, by rw [hn9.2.1, hs.out.2.1]; omega, by rw [hn9.2.2]; exact hs.out.2.2⟩, Lib.hid h4, Lib.hid ((hr.out.drewN j).apart k4 HZ.out (by intro x hx; have := HAL.out; simp at hx; omega)), Lib.hid ((bel_trans hb.out (bel_drewN _ _)).trans (k4.below (bel_trans hb.out (bel_drewN wr j)).size (by intro x hx; have := HAL.out; simp at hx; omega)))⟩, ?_⟩
      simp [intOf]; omega
    · obtain rfl : k = 3 := by omega
      have hpc : decide (s.pipe < s.cwnd) = false := decide_eq_false (by have := hs.out; omega)
      have HM : Hid (Calls Tryz.prog 356 #[.pointer (some ⟨Ka, 0, none⟩), .int .i64 0, .int .i64 n] wr fun e w' => e = .returned (.bool false) ∧ ∃ j, w' = wr.drewN j) := Lib.hid (by
        have h9 := cwMay_any ha.out 0 n
        rw [hpc] at h9
        exact h9)
      have HS : Hid (∀ j, Calls Tryz.prog 357 #[.pointer (some ⟨Ka, 0, none⟩), .int .i64 0, .int .u64 9, .int .i64 n] (wr.drewN j) fun e w' => e = .returned (.bool false) ∧ ∃ i, w' = (wr.drewN j).drewN i) := Lib.hid (fun j => cwSent_no (ha.out.drewN j) (by have := hs.out; omega) 9 0 n)
      obtain ⟨R, hR⟩ : ∃ R, 64 * S = R := ⟨_, rfl⟩
      have hR1 : 64 ≤ R := by omega
      have hR2 : R ≤ 89600 := by omega
      obtain ⟨q, hq⟩ : ∃ q, 64000000 * n / R = q := ⟨_, rfl⟩
      obtain ⟨Y, hY⟩ : ∃ Y, R * q = Y := ⟨_, rfl⟩
      have hdm := Nat.div_add_mod (64000000 * n) R
      have hml := Nat.mod_lt (64000000 * n) (show 0 < R by omega)
      rw [hq, hY] at hdm
      have hqb : q ≤ 64000000 * n / 64 := by rw [← hq]; exact Nat.div_le_div_left hR1 (by decide)
      have HMD : Hid (∀ W, Calls Tryz.prog 49 #[.int .u64 64000000, .int .u64 n, .int .u64 R] W fun e w' => e = .returned (.int .u64 q) ∧ W = w') := Lib.hid (fun W => refMulDiv_at 64000000 n R q (by decide) (by omega) (by omega) (by omega) hq (by omega) W)
      obtain ⟨T1, hT1⟩ : ∃ T1 : Int, (q : Int) - 1 - (R : Int) = T1 := ⟨_, rfl⟩
      obtain ⟨D1, hD1⟩ : ∃ D1 : Nat, max 0 T1 = (D1 : Int) := ⟨(max 0 T1).toNat, by omega⟩
      obtain ⟨D2, hD2⟩ : ∃ D2 : Nat, max (D1 : Int) ((q : Int) + 1) = (D1 : Int) + (D2 : Int) := ⟨q + 1 - D1, by omega⟩
      have hD3 : D1 + D2 = q + 1 := by omega
      obtain ⟨X1, hX1⟩ : ∃ X1, R * D1 = X1 := ⟨_, rfl⟩
      obtain ⟨X2, hX2⟩ : ∃ X2, R * D2 = X2 := ⟨_, rfl⟩
      have hXX : X1 + X2 = Y + R := by rw [← hX1, ← hX2, ← Nat.mul_add, hD3, Nat.mul_add, hY, Nat.mul_one]
      have hXl : X1 < 64000000 * n := by
        by_cases hz : D1 = 0
        · rw [hz, Nat.mul_zero] at hX1; omega
        · have h1 : R * D1 ≤ R * (q - 1) := Nat.mul_le_mul (Nat.le_refl _) (by omega)
          have h2 : R * (q - 1) + R = Y := by rw [← hY]; obtain ⟨z, rfl⟩ : ∃ z, q = z + 1 := ⟨q - 1, by omega⟩; rw [Nat.add_sub_cancel, Nat.mul_add, Nat.mul_one]
          omega
      obtain ⟨H2, hH2⟩ : ∃ H2, min (X1 + X2) 89600000000 = H2 := ⟨_, rfl⟩
      have tok := tfFirst_ok S hS1 hS2
      have hrr : (tfFirst S).rate = R := hR
      have B0 : Hid (∀ W, CrAt (tfFirst S) [(0, 18446744073709551615)] pcFirst 0 K C P B v W → Calls Tryz.prog 362 #[.pointer (some ⟨K, 0, none⟩), .int .i64 0, .int .i64 n] W fun e w' => e = .returned (.bool false) ∧ CrAt (tfFirst S) [(0, 18446744073709551615)] (pb R 0 0) R K C P B v w' ∧ Kept [K, B] W w') := Lib.hid (fun W hW => by
        have h9 := crMay_any hW tok pcFirst_ok 0 n
        rw [pb_first S hS2 hS1, hR, hrr, pb_has _ _ _ n (by omega), decide_eq_false (by omega)] at h9
        exact h9)
      have B1 : Hid (∀ W, CrAt (tfFirst S) [(0, 18446744073709551615)] (pb R 0 0) R K C P B v W → Calls Tryz.prog 362 #[.pointer (some ⟨K, 0, none⟩), .int .i64 T1, .int .i64 n] W fun e w' => e = .returned (.bool false) ∧ CrAt (tfFirst S) [(0, 18446744073709551615)] (pb R X1 D1) R K C P B v w' ∧ Kept [K, B] W w') := Lib.hid (fun W hW => by
        have h9 := crMay_any hW tok (pb_ok R 0 0 hR2 (by decide) (by decide)) T1 n
        rw [← hrr, crM_same, hrr, pb_fill R 0 0 T1 hR2 (by decide) (by decide) (by omega) D1 (by omega) (by omega), hX1, pb_has _ _ _ n (by omega), decide_eq_false (by omega), show min (0 + X1) 89600000000 = X1 by omega, Int.zero_add] at h9
        exact h9)
      have B2 : Hid (∀ W, CrAt (tfFirst S) [(0, 18446744073709551615)] (pb R X1 D1) R K C P B v W → Calls Tryz.prog 362 #[.pointer (some ⟨K, 0, none⟩), .int .i64 ((q : Int) + 1), .int .i64 n] W fun e w' => e = .returned (.bool true) ∧ CrAt (tfFirst S) [(0, 18446744073709551615)] (pb R H2 ((q : Int) + 1)) R K C P B v w' ∧ Kept [K, B] W w') := Lib.hid (fun W hW => by
        have h9 := crMay_any hW tok (pb_ok R X1 D1 hR2 (by omega) (by omega)) ((q : Int) + 1) n
        rw [← hrr, crM_same, hrr, pb_fill R X1 D1 ((q : Int) + 1) hR2 (by omega) (by omega) (by omega) D2 (by omega) hD2, hX2, hH2, pb_has _ _ _ n (by omega), decide_eq_true (by omega), show (D1 : Int) + (D2 : Int) = (q : Int) + 1 by omega] at h9
        exact h9)
      have hf : ∀ h, h ≤ 89600000000 → (pb R h ((q : Int) + 1)).fill ((q : Int) + 1) = pb R h ((q : Int) + 1) := fun h hh => by
        rw [pb_fill R h ((q : Int) + 1) ((q : Int) + 1) hR2 hh (by omega) (by omega) 0 (by decide) (by omega), Nat.mul_zero, Nat.add_zero, show min h 89600000000 = h by omega]
        simp
      have B3 : Hid (∀ W, CrAt (tfFirst S) [(0, 18446744073709551615)] (pb R H2 ((q : Int) + 1)) R K C P B v W → Calls Tryz.prog 363 #[.pointer (some ⟨K, 0, none⟩), .int .i64 ((q : Int) + 1), .int .u64 1, .int .i64 n] W fun e w' => e = .returned (.bool true) ∧ CrAt ((tfFirst S).start ((q : Int) + 1)) [(0, 18446744073709551615)] (pb R (H2 - 64000000 * n) ((q : Int) + 1)) R K C P B v w' ∧ Kept [K, B, C] W w') := Lib.hid (fun W hW => by
        have h9 := crSent_any hW tok (pb_ok R H2 _ hR2 (by omega) (by omega)) ((q : Int) + 1) n (by omega) 1
        rw [← hrr, crM_same, hrr, hf H2 (by omega), pb_has _ _ _ n (by omega), decide_eq_true (by omega), pb_took _ _ _ n (by omega) (by omega)] at h9
        exact h9)
      have B4 : Hid (∀ W, CrAt ((tfFirst S).start ((q : Int) + 1)) [(0, 18446744073709551615)] (pb R (H2 - 64000000 * n) ((q : Int) + 1)) R K C P B v W → Calls Tryz.prog 363 #[.pointer (some ⟨K, 0, none⟩), .int .i64 ((q : Int) + 1), .int .u64 2, .int .i64 n] W fun e w' => e = .returned (.bool false) ∧ Kept [K, B, C] W w') := Lib.hid (fun W hW => by
        have h9 := crSent_any hW (TfS.start_ok tok _) (pb_ok R (H2 - 64000000 * n) _ hR2 (by omega) (by omega)) ((q : Int) + 1) n (by omega) 2
        rw [show R = ((tfFirst S).start ((q : Int) + 1)).rate by rw [TfS.start_rate, hrr], crM_same, TfS.start_rate, hrr, hf _ (by omega), pb_has _ _ _ n (by omega), decide_eq_false (by omega)] at h9
        exact h9.mono fun e w' ⟨a, _, b⟩ => ⟨a, b⟩)
      have HRR : Hid (Below w.heap.size w wr ∧ w.heap.size ≤ K ∧ w.heap.size ≤ B ∧ w.heap.size ≤ C) := Lib.hid ⟨hb.out, by have := HZ.out; have := HZ0.out; omega⟩
      have w1 : IntKind.u64.wrap (n : Int) = (n : Int) := by rw [IntKind.wrap_u64]; omega
      have w2 : IntKind.u64.wrap (S : Int) = (S : Int) := by rw [IntKind.wrap_u64]; omega
      have w3 : IntKind.u64.wrap (64 * (S : Int)) = (R : Int) := by rw [IntKind.wrap_u64]; omega
      have w4 : IntKind.i64.wrap (64 * (S : Int)) = (R : Int) := by rw [IntKind.wrap_i64]; omega
      have w5 : IntKind.i64.wrap (q : Int) = (q : Int) := by rw [IntKind.wrap_i64]; omega
      have w6 : IntKind.i64.wrap ((q : Int) - 1) = (q : Int) - 1 := by rw [IntKind.wrap_i64]; omega
      have w7 : IntKind.i64.wrap ((q : Int) - 1 - (R : Int)) = T1 := by rw [IntKind.wrap_i64]; omega
      have w8 : IntKind.i64.wrap ((q : Int) + 1) = (q : Int) + 1 := by rw [IntKind.wrap_i64]; omega
      clear hX1 hX2 hY hq hdm hml hqb hXX hXl hH2 hf tok hrr hR hT1 hD1 hD2 hD3 hpc hs ha
      go_wp2_with (first
        | (go_at_call 356; (with_reducible refine HM.out.mono ?_); rintro e w3 ⟨rfl, j, rfl⟩)
        | (go_at_call 357; (with_reducible refine (HS.out _).mono ?_); rintro e w4 ⟨rfl, j2, rfl⟩)
        | (go_at_call 49; (with_reducible refine (HMD.out _).mono ?_); rintro e wm ⟨rfl, rfl⟩)
        | (go_at_call 362; (with_reducible refine (B0.out _ (hr.out.drewN _)).mono ?_); rintro e w5 ⟨rfl, h5, k5⟩; clear B0)
        | (go_at_call 362; (with_reducible refine (B1.out _ h5).mono ?_); rintro e w6 ⟨rfl, h6, k6⟩; clear B1)
        | (go_at_call 362; (with_reducible refine (B2.out _ h6).mono ?_); rintro e w7 ⟨rfl, h7, k7⟩)
        | (go_at_call 363; (with_reducible refine (B3.out _ h7).mono ?_); rintro e w8 ⟨rfl, h8, k8⟩; clear B3)
        | (go_at_call 363; (with_reducible refine (B4.out _ h8).mono ?_); rintro e w9 ⟨rfl, k9⟩))
      go_ret
      have kA := ((((k5.more (T := [K, B, C]) (by simp)).trans' (k6.more (by simp))).trans' (k7.more (by simp))).trans' k8).trans' k9
      exact ⟨rfl, (bel_trans HRR.out.1 (bel_drewN _ _)).trans (kA.below (bel_trans HRR.out.1 (bel_drewN wr _)).size (by intro x hx; have := HRR.out; simp at hx; omega))⟩
end Go.Proofs.YtnhlachoimlhhaaGreatDoor
