/-
  The law CtrlFire, walked (its opening handed in): a rate.
-/
import Derived.Test.YtnhlachoimlhhaaGreatDoorLawCf
import Derived.Test.YtnhlachoimlhhaaGreatDoorCtW
namespace Go.Proofs.YtnhlachoimlhhaaGreatDoor
open Go.ChangeShapes Go.WideShapes Go.ChangeAt Go.RowKit
set_option linter.unusedVariables false
set_option linter.unusedSimpArgs false

theorem cf_step (k a : Nat) (h : a * 2 ^ k = 64) (hk : k ≤ 5) : ∃ a', a = 2 * a' ∧ 1 ≤ a' ∧ a' * 2 ^ (k + 1) = 64 ∧ 128000000 / a' = 2000000 * 2 ^ (k + 1) ∧ (a' = 1 ↔ k = 5) := by
  have h6 : k = 0 ∨ k = 1 ∨ k = 2 ∨ k = 3 ∨ k = 4 ∨ k = 5 := by omega
  rcases h6 with rfl | rfl | rfl | rfl | rfl | rfl
  · obtain rfl : a = 64 := by omega
    exact ⟨32, by decide, by decide, by decide, by decide, by decide⟩
  · obtain rfl : a = 32 := by omega
    exact ⟨16, by decide, by decide, by decide, by decide, by decide⟩
  · obtain rfl : a = 16 := by omega
    exact ⟨8, by decide, by decide, by decide, by decide, by decide⟩
  · obtain rfl : a = 8 := by omega
    exact ⟨4, by decide, by decide, by decide, by decide, by decide⟩
  · obtain rfl : a = 4 := by omega
    exact ⟨2, by decide, by decide, by decide, by decide, by decide⟩
  · obtain rfl : a = 2 := by omega
    exact ⟨1, by decide, by decide, by decide, by decide, by decide⟩
/-- Behind k of them. -/
structure CfI (S k a : Nat) (T : Int) (t : TfS) : Prop where
  ok : t.ok
  rtt : t.rtt = 0
  size : t.size = S
  rate : t.rate = S * a
  ab : a * 2 ^ k = 64
  st : (k = 0 ∧ t.started = false ∧ t.runs = false) ∨ (t.started = true ∧ (k ≤ 5 → t.runs = true ∧ t.due = T + 2000000 * ((2 ^ k : Nat) : Int)))
theorem CfI.sent {S k a : Nat} {T : Int} {t : TfS} (h : CfI S k a T t) (hk : k ≤ 5) (hT : 0 ≤ T ∧ T ≤ 4000000000000) : (t.start T).ok ∧ (t.start T).rtt = 0 ∧ (t.start T).size = S ∧ (t.start T).rate = S * a ∧ (t.start T).started = true ∧ (t.start T).runs = true ∧ (t.start T).due = T + 2000000 * ((2 ^ k : Nat) : Int) := by
  refine ⟨TfS.start_ok h.ok T, ?_, ?_, ?_, ?_, ?_, ?_⟩
  · unfold TfS.start; split
    · exact h.rtt
    · exact h.rtt
  · unfold TfS.start; split
    · exact h.size
    · exact h.size
  · rw [TfS.start_rate]; exact h.rate
  · unfold TfS.start; split
    · assumption
    · rfl
  · rcases h.st with ⟨_, h1, _⟩ | ⟨h1, h2⟩
    · unfold TfS.start; rw [if_neg (by simp [h1])]; rfl
    · unfold TfS.start; rw [if_pos h1]; exact (h2 hk).1
  · rcases h.st with ⟨h0, h1, _⟩ | ⟨h1, h2⟩
    · unfold TfS.start; rw [if_neg (by simp [h1])]; subst h0
      show min (min T 4611686018427387904 + 2000000) 4611686018427387904 = _
      simp only [Nat.pow_zero]
      omega
    · unfold TfS.start; rw [if_pos h1]; exact (h2 hk).2
theorem CfI.next {S k a : Nat} {T D : Int} {t : TfS} (hS1 : 1 ≤ S) (hS2 : S ≤ 1400) (h : CfI S k a T t) (hk : k ≤ 5) (hT : 0 ≤ T ∧ T ≤ 4000000000000) (hD : D = T + 2000000 * ((2 ^ k : Nat) : Int)) : ∃ a', CfI S (k + 1) a' D ((t.start T).fire D) := by
  obtain ⟨t1, t2, t3, t4, t5, t6, t7⟩ := h.sent hk hT
  obtain ⟨a', e1, e2, e3, e4, e5⟩ := cf_step k a h.ab hk
  generalize t.start T = u at *
  have hp : (2 : Nat) ^ k ≤ 2 ^ 5 := Nat.pow_le_pow_right (by decide) hk
  have hsa : S * a' ≤ 1400 * 64 := Nat.mul_le_mul hS2 (by have := Nat.pos_of_ne_zero (show 2 ^ (k + 1) ≠ 0 by have := Nat.two_pow_pos (k + 1); omega); have := Nat.le_mul_of_pos_right a' this; omega)
  have hge : S ≤ S * a' := Nat.le_mul_of_pos_right S (by omega)
  have hrate : u.half.rate = S * a' := by
    show max (u.rate / 2) u.size = _
    rw [t4, t3, e1, show S * (2 * a') = 2 * (S * a') by rw [Nat.mul_left_comm], Nat.mul_div_cancel_left _ (by decide)]
    omega
  have hsz : u.half.size = S := t3
  have hok : u.half.ok := TfS.half_ok t1 (by rw [t3, t4, e1, show S * (2 * a') = 2 * (S * a') by rw [Nat.mul_left_comm]]; omega)
  have hrt : u.half.rtt = 0 := t2
  have hst : u.half.started = true := t5
  have hw : M.tfWait u.half = 2000000 * ((2 ^ (k + 1) : Nat) : Int) := by
    unfold M.tfWait
    rw [hrt, hrate, hsz, show 128 * S * 1000000 = S * 128000000 by rw [Nat.mul_comm 128 S, Nat.mul_assoc], Nat.mul_div_mul_left _ _ (by omega), e4]
    omega
  refine ⟨a', ?_⟩
  unfold TfS.fire
  by_cases hz : u.half.rate = u.size
  · rw [if_pos hz]
    rw [hrate, t3] at hz
    have ha1 : a' = 1 := by
      have : S * a' = S * 1 := by omega
      exact Nat.eq_of_mul_eq_mul_left (by omega) this
    have hk5 : k = 5 := e5.1 ha1
    exact ⟨⟨hok.b0, hok.b1, hok.b2, hok.b3, hok.b4⟩, hrt, hsz, hrate, e3, .inr ⟨hst, fun hh => absurd hh (by omega)⟩⟩
  · rw [if_neg hz]
    refine ⟨⟨hok.b0, hok.b1, hok.b2, hok.b3, hok.b4⟩, hrt, hsz, hrate, e3, .inr ⟨hst, fun hh => ⟨rfl, ?_⟩⟩⟩
    have hp2 : (2 : Nat) ^ (k + 1) ≤ 2 ^ 6 := Nat.pow_le_pow_right (by decide) (by omega)
    show min (min D 4611686018427387904 + M.tfWait u.half) 4611686018427387904 = _
    rw [hw]
    omega
set_option maxHeartbeats 16000000 in
set_option maxRecDepth 100000 in
theorem ctrlFire_rate (kind sz nz : Int) (hkd : bits .and .i64 kind 1 = 1) (s1 : -9223372036854775808 ≤ sz) (s2 : sz ≤ 9223372036854775807) (n1 : -9223372036854775808 ≤ nz) (n2 : nz ≤ 9223372036854775807) (w : World)
    (hbg : Calls Tryz.prog 14 #[] w fun e w' => e = .returned (.bool true) ∧ Below w.heap.size w w') :
    Calls Tryz.prog 11 #[.int .i64 kind, .int .i64 sz, .int .i64 nz] w fun e w' => e = .returned (.bool true) ∧ Below w.heap.size w w' := by
  have HBG := Lib.hid hbg
  clear hbg
  obtain ⟨u0, e0, e01, e02, S0, e03, e04⟩ := mod_at sz 1400 (by decide)
  obtain ⟨v0, f0, f01, f02, J, f03, f04⟩ := mod_at nz 6 (by decide)
  obtain ⟨S, hS⟩ : ∃ S : Nat, 1 + (S0 : Int) = (S : Int) := ⟨1 + S0, by omega⟩
  have hS1 : 1 ≤ S := by omega
  have hS2 : S ≤ 1400 := by omega
  have HOR := Lib.hid (fun W (hb : Below w.heap.size w W) => CrX.new S hS1 hS2 w W hb)
  go_enter Tryz.func11, Tryz.ntmps11
  go_upto_region 6 with (first
    | (go_at_call 14; (with_reducible refine HBG.out.mono ?_); rintro e w0 ⟨rfl, hb0⟩)
    | (go_at_call 30; (with_reducible refine (HOR.out _ hb0).mono ?_); rintro e w1 ⟨K, C, P, B, rfl, ha⟩))
  have HA := Lib.hid ha
  clear ha hb0 HOR HBG
  unfold crV at *
  have q1 := eqR_N
  have q3 := naR_Fire
  have q4 := meR_Fire
  have q5 := naR_Sent
  have q6 := meR_Sent
  have q7 := naR_Due
  have q8 := meR_Due
  have tok := tfFirst_ok S hS1 hS2
  have HF0 := Lib.hid (CrX.fireNo HA.out tok 1099511627776 (.inl rfl))
  have HD0 : Hid (∀ W, CrX (tfFirst S) [(0, 18446744073709551615)] K C P B w W → Calls Tryz.prog 358 #[.pointer (some ⟨K, 0, none⟩)] W fun e w' => e = .returned (.tuple #[.int .i64 0, .bool false]) ∧ CrX (tfFirst S) [(0, 18446744073709551615)] K C P B w w') := Lib.hid (fun W hW => CrX.due hW tok)
  go_upto_region 11 with (first
    | (go_at_call 359; (with_reducible refine HF0.out.mono ?_); rintro e w2 ⟨rfl, h2⟩)
    | (go_at_call 358; (with_reducible refine (HD0.out _ h2).mono ?_); rintro e w3 ⟨rfl, h3⟩))
  have HA3 := Lib.hid h3
  clear HA HF0 HD0 h2 h3
  go_wp2
  go_loopw [11, 12] (fun nw i wr => ∃ (k a : Nat) (t : TfS) (T : Int), i = .int .i64 (k : Int) ∧ nw = .int .i64 T ∧ k ≤ 1 + J ∧ (1099511627776 ≤ T ∧ T ≤ 1099511627776 + 2000000 * ((2 ^ k : Nat) : Int)) ∧ Hid (CfI S k a T t) ∧ Hid (CrX t [(0, 18446744073709551615)] K C P B w wr)) (fun _ i _ => 1 + J - (intOf i).toNat)
  case atStart => exact ⟨0, 64, tfFirst S, 1099511627776, rfl, rfl, Nat.zero_le _, ⟨by decide, by decide⟩, Lib.hid ⟨tok, rfl, rfl, Nat.mul_comm _ _, by decide, .inl ⟨rfl, rfl, rfl⟩⟩, HA3⟩
  case round =>
    obtain ⟨k, a, t, T, rfl, rfl, hk, ⟨u1, u2⟩, hs, hw⟩ := hrel
    by_cases hkJ : k ≤ J
    · have hp : (2 : Nat) ^ k ≤ 2 ^ 5 := Nat.pow_le_pow_right (by decide) (by omega)
      have hp0 := Nat.two_pow_pos k
      obtain ⟨D, hD⟩ : ∃ D, T + 2000000 * ((2 ^ k : Nat) : Int) = D := ⟨_, rfl⟩
      obtain ⟨t1, t2, t3, t4, t5, t6, t7⟩ := hs.out.sent (by omega) ⟨by omega, by omega⟩
      obtain ⟨a', hn⟩ := hs.out.next hS1 hS2 (by omega) ⟨by omega, by omega⟩ hD.symm
      rw [hD] at t7
      have hD1 : D ≤ 1099511627776 + 2000000 * ((2 ^ (k + 1) : Nat) : Int) := by rw [Nat.pow_succ]; omega
      have hD2 : T < D := by omega
      have hD3 : D ≤ 4611686018427387904 := by omega
      have HS := Lib.hid (hw.out.sent hs.out.ok T 0 (by omega) k)
      have hsr : (t.start T).size ≤ (t.start T).rate := by
        obtain ⟨b', e1, e2, _⟩ := cf_step k a hs.out.ab (by omega)
        rw [t3, t4]
        exact Nat.le_mul_of_pos_right S (by omega)
      have HN := Lib.hid hn
      generalize t.start T = z at *
      have HD : Hid (∀ W, CrX z [(0, 18446744073709551615)] K C P B w W → Calls Tryz.prog 358 #[.pointer (some ⟨K, 0, none⟩)] W fun e w' => e = .returned (.tuple #[.int .i64 D, .bool true]) ∧ CrX z [(0, 18446744073709551615)] K C P B w w') := Lib.hid (fun W hW => by
        have h1 := CrX.due hW t1
        rw [t7, t6] at h1
        exact h1)
      have HF1 : Hid (∀ W, CrX z [(0, 18446744073709551615)] K C P B w W → Calls Tryz.prog 359 #[.pointer (some ⟨K, 0, none⟩), .int .i64 (D - 1)] W fun e w' => e = .returned (.bool false) ∧ CrX z [(0, 18446744073709551615)] K C P B w w') := Lib.hid (fun W hW => CrX.fireNo hW t1 (D - 1) (.inr (by omega)))
      have HF2 : Hid (∀ W, CrX z [(0, 18446744073709551615)] K C P B w W → Calls Tryz.prog 359 #[.pointer (some ⟨K, 0, none⟩), .int .i64 D] W fun e w' => e = .returned (.bool true) ∧ CrX (z.fire D) [(0, 18446744073709551615)] K C P B w w') := Lib.hid (fun W hW => CrX.fireYes hW t1 D hn.ok (fun v W hW => (tfFire_first z t1 t2 hsr t6 D (by omega) (by omega) _ C P v W hW).mono fun e w' ⟨x1, x2, x3⟩ => ⟨x1, v, x2, x3.more (by simp), .inl rfl⟩))
      have hdk : decide ((k : Int) ≤ (J : Int)) = true := decide_eq_true (by omega)
      have hd1 : decide (D ≤ T) = false := decide_eq_false (by omega)
      have hwk : IntKind.u64.wrap (k : Int) = (k : Int) := by rw [IntKind.wrap_u64]; omega
      have hwd : IntKind.i64.wrap (D - 1) = D - 1 := by rw [IntKind.wrap_i64]; omega
      clear t1 t2 t3 t4 t5 t6 t7 hn hsr hs hw hp hD
      go_upto_region 17 with (first
        | (go_at_call 363; (with_reducible refine HS.out.mono ?_); rintro e w8 ⟨⟨sb, rfl⟩, h8⟩)
        | (go_at_call 358; (with_reducible refine (HD.out _ h8).mono ?_); rintro e w9 ⟨rfl, h9⟩))
      clear h8 HS HD
      go_upto_region 19 with (first
        | (go_at_call 359; (with_reducible refine (HF1.out _ h9).mono ?_); rintro e wf ⟨rfl, h10⟩; clear HF1)
        | (go_at_call 359; (with_reducible refine (HF2.out _ h10).mono ?_); rintro e wi ⟨rfl, h11⟩; clear HF2))
      have HWI := Lib.hid h11
      clear h9 h10 h11
      go_wp2
      refine ⟨⟨k + 1, a', z.fire D, D, by go_num, rfl, by omega, ⟨by omega, hD1⟩, HN, HWI⟩, ?_⟩
      simp [intOf]; omega
    · have hdk : decide ((k : Int) ≤ (J : Int)) = false := decide_eq_false (by omega)
      obtain rfl : k = 1 + J := by omega
      have hab := hs.out.ab
      have hrate := hs.out.rate
      have HW : Hid (Calls Tryz.prog 31 #[.iface 121 (.pointer (some ⟨K, 0, none⟩))] wr fun e w' => e = .returned (.tuple #[.pointer none, .bool false]) ∧ wr = w') := Lib.hid (ctWindow_rate K wr)
      go_upto_region 23 with (go_at_call 31; (with_reducible refine HW.out.mono ?_); rintro e wq ⟨rfl, rfl⟩)
      obtain ⟨Z, hZ⟩ : ∃ Z, S * a = Z := ⟨_, rfl⟩
      have ha1 : 1 ≤ a := by
        rcases Nat.eq_zero_or_pos a with h0 | h0
        · rw [h0] at hab; omega
        · exact h0
      have hSZ : S ≤ Z := by rw [← hZ]; exact Nat.le_mul_of_pos_right S ha1
      have ha2 : a ≤ 64 := by rw [← hab]; exact Nat.le_mul_of_pos_right a (Nat.two_pow_pos _)
      have hZb : Z ≤ 1400 * 64 := by rw [← hZ]; exact Nat.mul_le_mul hS2 ha2
      have hdv : 64 * S / 2 ^ (1 + J) = Z := by
        rw [← hab, ← hZ, show a * 2 ^ (1 + J) * S = S * a * 2 ^ (1 + J) by rw [Nat.mul_comm, Nat.mul_assoc], Nat.mul_div_cancel _ (Nat.two_pow_pos _)]
      have hsh : (64 * (S : Int)).fdiv (2 ^ (1 + J)) = (Z : Int) := by
        rw [Int.fdiv_eq_ediv_of_nonneg _ (by exact Int.le_of_lt (Int.pow_pos (by decide)))]
        rw [← hdv]
        rw [Int.natCast_ediv, Int.natCast_mul, Int.natCast_pow]
        rfl
      have hsh2 : 64 * (S : Int) / 2 ^ (1 + J) = (Z : Int) := by
        rw [← hdv, Int.natCast_ediv, Int.natCast_mul, Int.natCast_pow]
        rfl
      have hZZ : ((Z : Int) == (Z : Int)) = true := beq_self_eq_true _
      have hR1 := Lib.hid (fun n => (hw.out.below (bel_drewN wr n)).rateOf)
      have hR2 : Hid (∀ n, Calls Tryz.prog 34 #[.pointer (some ⟨C, 0, none⟩)] (wr.drewN n) fun e w' => e = .returned (.int .u64 (Z : Int)) ∧ wr.drewN n = w') := Lib.hid (fun n => by
        have h1 := (hw.out.below (bel_drewN wr n)).rate hs.out.ok
        rw [hrate, hZ] at h1
        exact h1)
      have hmx : max (S : Int) (Z : Int) = (Z : Int) := by omega
      have hmx2 : (if (S : Int) < (Z : Int) then (Z : Int) else (S : Int)) = (Z : Int) := by split <;> omega
      have hw1 : IntKind.i64.wrap (64 * (S : Int)) = 64 * (S : Int) := by rw [IntKind.wrap_i64]; omega
      have hw3 : IntKind.u64.wrap (Z : Int) = (Z : Int) := by rw [IntKind.wrap_u64]; omega
      have hw4 : ((J : Int) + 1).toNat = 1 + J := by omega
      have hw5 : min (1 + J) 64 = 1 + J := by omega
      have hw6 : decide ((J : Int) + 1 < 0) = false := decide_eq_false (by omega)
      have hw7 : ¬ ((J : Int) + 1 < 0) := by omega
      have hw8 : IntKind.i64.wrap ((J : Int) + 1) = (J : Int) + 1 := by rw [IntKind.wrap_i64]; omega
      clear hZ hdv ha1 ha2 hab hrate hZb hSZ hs
      unfold crV at hR1
      have HB := Lib.hid hw.out.bel
      clear hw
      go_quiet ((first
        | (go_at_call 33; exact Calls.quiet_of_same ((hR1.out _).mono fun e w' ⟨q1, q2⟩ => ⟨q1, q2.symm⟩))
        | (go_at_call 34; exact Calls.quiet_of_same ((hR2.out _).mono fun e w' ⟨q1, q2⟩ => ⟨q1, q2.symm⟩))))
      go_wp2
      go_ret
      exact ⟨rfl, bel_trans HB.out (bel_drewN _ _)⟩
theorem ctrlFire_walk (kind sz nz : Int) (s1 : -9223372036854775808 ≤ sz) (s2 : sz ≤ 9223372036854775807) (n1 : -9223372036854775808 ≤ nz) (n2 : nz ≤ 9223372036854775807) (w : World)
    (hbg : Calls Tryz.prog 14 #[] w fun e w' => e = .returned (.bool true) ∧ Below w.heap.size w w') :
    Calls Tryz.prog 11 #[.int .i64 kind, .int .i64 sz, .int .i64 nz] w fun e w' => e = .returned (.bool true) ∧ Below w.heap.size w w' := by
  rcases and1_i64 kind with h | h
  · exact ctrlFire_win kind sz nz h s1 s2 n1 n2 w hbg
  · exact ctrlFire_rate kind sz nz h s1 s2 n1 n2 w hbg
end Go.Proofs.YtnhlachoimlhhaaGreatDoor
