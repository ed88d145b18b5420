/-
  The law CtrlFire, walked (its opening handed in): a window.
-/
import Derived.Test.YtnhlachoimlhhaaGreatDoorCtW
import Derived.Test.YtnhlachoimlhhaaGreatDoorCtU
import Derived.Test.YtnhlachoimlhhaaGreatDoorMatW
namespace Go.Proofs.YtnhlachoimlhhaaGreatDoor
open Go.ChangeShapes Go.WideShapes Go.ChangeAt Go.RowKit
set_option linter.unusedVariables false
set_option linter.unusedSimpArgs false

theorem and1_i64 (n : Int) : bits .and .i64 n 1 = 0 ∨ bits .and .i64 n 1 = 1 := by
  have h : (BitVec.ofInt 64 n &&& BitVec.ofInt 64 1).toNat ≤ 1 := by
    rw [BitVec.toNat_and, show (BitVec.ofInt 64 1).toNat = 1 by decide, Nat.and_one_is_mod]
    omega
  have e : bits .and .i64 n 1 = IntKind.i64.wrap ((BitVec.ofInt 64 n &&& BitVec.ofInt 64 1).toNat : Int) := rfl
  rw [e, IntKind.wrap_i64]
  omega
theorem cfFire_ok (s : WinS) (hs : s.ok) : s.fire.ok := by
  obtain ⟨⟨a0, a1⟩, ⟨b0, b1⟩, _, _, e, f⟩ := hs
  exact ⟨(by decide : (1 : Int) ≤ 1 ∧ (1 : Int) ≤ 1099511627776), by unfold WinS.fire WinS.halve WinS.stop; simp only; omega, (by decide : (0 : Int) ≤ 0 ∧ (0 : Int) ≤ 1099511627776), (by decide : (0 : Int) ≤ 0 ∧ (0 : Int) ≤ 1099511627776), e, e⟩
theorem kbW {w W W' : World} {K C D : Nat} (h : Below w.heap.size w W) (k : Kept [C, D] W W') (hC : w.heap.size ≤ C) (hD : w.heap.size ≤ D) : Below w.heap.size w W' := h.trans (k.below h.size (by intro x hx; simp at hx; omega))
set_option maxHeartbeats 16000000 in
set_option maxRecDepth 100000 in
theorem ctrlFire_win (kind sz nz : Int) (hkd : bits .and .i64 kind 1 = 0) (s1 : -9223372036854775808 ≤ sz) (s2 : sz ≤ 9223372036854775807) (n1 : -9223372036854775808 ≤ nz) (n2 : nz ≤ 9223372036854775807) (w : World)
    (hbg : Calls Tryz.prog 14 #[] w fun e w' => e = .returned (.bool true) ∧ Below w.heap.size w w') :
    Calls Tryz.prog 11 #[.int .i64 kind, .int .i64 sz, .int .i64 nz] w fun e w' => e = .returned (.bool true) ∧ Below w.heap.size w w' := by
  have HBG := Lib.hid hbg
  clear hbg
  obtain ⟨u0, e0, e01, e02, S0, e03, e04⟩ := mod_at sz 1400 (by decide)
  obtain ⟨v0, f0, f01, f02, J, f03, f04⟩ := mod_at nz 6 (by decide)
  obtain ⟨S, hS⟩ : ∃ S : Nat, 1 + (S0 : Int) = (S : Int) := ⟨1 + S0, by omega⟩
  have hS1 : 1 ≤ S := by omega
  have hS2 : S ≤ 1400 := by omega
  have HOW : Hid (∀ W, Calls Tryz.prog 30 #[.int .i64 2, .int .i64 S] W fun e w' => ∃ K C D, e = .returned (cwV K) ∧ CwAt WinS.init RttS.zero K C D w' ∧ W.heap.size ≤ K ∧ W.heap.size ≤ C ∧ W.heap.size ≤ D ∧ Below W.heap.size W w') := Lib.hid (fun W => ctOf_win S (by omega) (by omega) W)
  go_enter Tryz.func11, Tryz.ntmps11
  go_upto_region 6 with (first
    | (go_at_call 14; (with_reducible refine HBG.out.mono ?_); rintro e w0 ⟨rfl, hb0⟩)
    | (go_at_call 30; (with_reducible refine (HOW.out _).mono ?_); rintro e w1 ⟨K, C, D, rfl, ha, hK, hC, hD, hb1⟩))
  have HA := Lib.hid ha
  have HBL : Hid (Below w.heap.size w w1) := Lib.hid (bel_trans hb0 hb1)
  have HZ : Hid (w.heap.size ≤ K ∧ w.heap.size ≤ C ∧ w.heap.size ≤ D) := Lib.hid (by have := hb0.size; omega)
  clear ha hb0 hb1 hK hC hD HOW HBG
  unfold cwV at *
  have q1 := eqW_N
  have q3 := naW_Fire
  have q4 := meW_Fire
  have q5 := naW_Sent
  have q6 := meW_Sent
  have q7 := naW_Due
  have q8 := meW_Due
  have HF0 : Hid (Calls Tryz.prog 353 #[.pointer (some ⟨K, 0, none⟩), .int .i64 1099511627776] w1 fun e w' => e = .returned (.bool false) ∧ ∃ n, w' = w1.drewN n) := Lib.hid (cwFire_no HA.out 1099511627776 (.inl rfl))
  have HD0 : Hid (∀ j, Calls Tryz.prog 352 #[.pointer (some ⟨K, 0, none⟩)] (w1.drewN j) fun e w' => e = .returned (.tuple #[.int .i64 0, .bool false]) ∧ ∃ n, w' = (w1.drewN j).drewN n) := Lib.hid (fun j => cwDue_any (HA.out.drewN j))
  go_upto_region 11 with (first
    | (go_at_call 353; (with_reducible refine HF0.out.mono ?_); rintro e w2 ⟨rfl, j0, rfl⟩)
    | (go_at_call 352; (with_reducible refine (HD0.out _).mono ?_); rintro e w3 ⟨rfl, j1, rfl⟩))
  have HA3 : Hid (CwAt WinS.init RttS.zero K C D (w1.drewN (j0 + j1))) := Lib.hid (HA.out.drewN _)
  have HB3 : Hid (Below w.heap.size w (w1.drewN (j0 + j1))) := Lib.hid (bel_trans HBL.out (bel_drewN _ _))
  clear HA HBL HF0 HD0
  generalize w1.drewN (j0 + j1) = w3 at *
  have hrz := RttS.ok_zero.rto
  obtain ⟨Q0, hQ0⟩ : ∃ Q0, RttS.zero.rto = Q0 := ⟨_, rfl⟩
  rw [hQ0] at hrz
  go_wp2
  go_loopw [11, 12] (fun nw i wr => ∃ (k : Nat) (s : WinS) (t : RttS) (T Q : Int), i = .int .i64 (k : Int) ∧ nw = .int .i64 T ∧ k ≤ 1 + J ∧ (1099511627776 ≤ T ∧ T ≤ 1099511627776 + 64000000 * (k : Int)) ∧ (200000 ≤ Q ∧ Q ≤ 64000000) ∧ Hid (s.ok ∧ t.ok ∧ t.rto = Q ∧ s.pipe = 0 ∧ s.runs = false ∧ (0 < k → s.cwnd = 1)) ∧ Hid (CwAt s t K C D wr) ∧ Hid (Below w.heap.size w wr)) (fun _ i _ => 1 + J - (intOf i).toNat)
  case atStart => exact ⟨0, WinS.init, RttS.zero, 1099511627776, Q0, rfl, rfl, Nat.zero_le _, ⟨by decide, by decide⟩, hrz, Lib.hid ⟨WinS.ok_init, RttS.ok_zero, hQ0, rfl, rfl, fun h => absurd h (by decide)⟩, HA3, HB3⟩
  case round =>
    obtain ⟨k, s, t, T, Q, rfl, rfl, hk, ⟨u1, u2⟩, ⟨q1', q2'⟩, hs, hw, hb⟩ := hrel
    by_cases hkJ : k ≤ J
    · obtain ⟨so, tok, hto, hpipe, hruns, _⟩ := hs.out
      have hdue : M.winDue T t.rto = T + Q := by unfold M.winDue; rw [hto]; omega
      obtain ⟨z, hz⟩ : ∃ z, s.sent k (T + Q) = z := ⟨_, rfl⟩
      have hz2 : z = { s with pipe := s.pipe + 1, ln := k, lk := true, due := T + Q, runs := true } := by rw [← hz]; unfold WinS.sent; rw [if_neg (by simp [hruns])]
      have HS : Hid (Calls Tryz.prog 357 #[.pointer (some ⟨K, 0, none⟩), .int .i64 T, .int .u64 k, .int .i64 0] wr fun e w' => e = .returned (.bool true) ∧ CwAt z t K C D w' ∧ Kept [C] wr w') := Lib.hid (by
        have h1 := cwSent_yes hw.out so (by rw [hpipe]; have := so.b0; omega) tok k (by omega) T (by omega) 0
        rw [hdue, hz] at h1
        exact h1)
      have zo : z.ok := by
        obtain ⟨g0, g1, g2, g3, g4, g5⟩ := so
        rw [hz2]
        exact ⟨g0, g1, by simp only; rw [hpipe]; decide, g3, by simp only; omega, g5⟩
      have HD : Hid (∀ W, CwAt z t K C D W → Calls Tryz.prog 352 #[.pointer (some ⟨K, 0, none⟩)] W fun e w' => e = .returned (.tuple #[.int .i64 (T + Q), .bool true]) ∧ ∃ n, w' = W.drewN n) := Lib.hid (fun W hW => by
        have h1 := cwDue_any hW
        rw [show z.due = T + Q by rw [hz2], show z.runs = true by rw [hz2]] at h1
        exact h1)
      have HF1 : Hid (∀ W, CwAt z t K C D W → Calls Tryz.prog 353 #[.pointer (some ⟨K, 0, none⟩), .int .i64 (T + Q - 1)] W fun e w' => e = .returned (.bool false) ∧ ∃ n, w' = W.drewN n) := Lib.hid (fun W hW => cwFire_no hW (T + Q - 1) (.inr (by rw [hz2]; simp only; omega)))
      have HF2 : Hid (∀ W, CwAt z t K C D W → Calls Tryz.prog 353 #[.pointer (some ⟨K, 0, none⟩), .int .i64 (T + Q)] W fun e w' => e = .returned (.bool true) ∧ CwAt z.fire t.back K C D w' ∧ Kept [C, D] W w') := Lib.hid (fun W hW => cwFire_yes hW zo tok (T + Q) (by omega) (by rw [hz2]) (by rw [hz2]; simp only; omega))
      have HN : Hid (z.fire.ok ∧ t.back.ok ∧ t.back.rto = min (2 * Q) 64000000 ∧ z.fire.pipe = 0 ∧ z.fire.runs = false ∧ (0 < k + 1 → z.fire.cwnd = 1)) := Lib.hid ⟨cfFire_ok z zo, tok.back, by rw [RttS.rto_back tok, hto]; rfl, rfl, rfl, fun _ => rfl⟩
      have hdk : decide ((k : Int) ≤ (J : Int)) = true := decide_eq_true (by omega)
      have hd1 : decide (T + Q ≤ T) = false := decide_eq_false (by omega)
      have hwk : IntKind.u64.wrap (k : Int) = (k : Int) := by rw [IntKind.wrap_u64]; omega
      clear hz hz2 zo so tok hto hpipe hruns hdue hs
      go_upto_region 17 with (first
        | (go_at_call 357; (with_reducible refine HS.out.mono ?_); rintro e w8 ⟨rfl, h8, k8⟩)
        | (go_at_call 352; (with_reducible refine (HD.out _ h8).mono ?_); rintro e wd ⟨rfl, j2, rfl⟩))
      have h9 := h8.drewN j2
      have hb9 : Below w.heap.size w (w8.drewN j2) := bel_trans (kbW (K := K) hb.out (k8.more (by simp)) HZ.out.2.1 HZ.out.2.2) (bel_drewN _ _)
      clear h8 k8 hw hb HS HD
      generalize w8.drewN j2 = w9 at *
      have HF3 := Lib.hid (HF1.out _ h9)
      have HF4 : Hid (∀ n, Calls Tryz.prog 353 #[.pointer (some ⟨K, 0, none⟩), .int .i64 (T + Q)] (w9.drewN n) fun e w' => e = .returned (.bool true) ∧ CwAt z.fire t.back K C D w' ∧ Kept [C, D] (w9.drewN n) w') := Lib.hid (fun n => HF2.out _ (h9.drewN n))
      clear HF1 HF2 h9
      go_upto_region 19 with (first
        | (go_at_call 353; (with_reducible refine HF3.out.mono ?_); rintro e wf ⟨rfl, j3, rfl⟩; clear HF3)
        | (go_at_call 353; (with_reducible refine (HF4.out _).mono ?_); rintro e wi ⟨rfl, h11, k11⟩; clear HF4))
      have HB9 : Hid (Below w.heap.size w wi) := Lib.hid (kbW (K := K) (bel_trans hb9 (bel_drewN w9 j3)) k11 HZ.out.2.1 HZ.out.2.2)
      have HWI := Lib.hid h11
      clear h11 k11 hb9
      go_wp2
      refine ⟨⟨k + 1, z.fire, t.back, T + Q, min (2 * Q) 64000000, by go_num, rfl, by omega, ⟨by omega, by omega⟩, ⟨by omega, by omega⟩, HN, HWI, HB9⟩, ?_⟩
      simp [intOf]; omega
    · have hdk : decide ((k : Int) ≤ (J : Int)) = false := decide_eq_false (by omega)
      obtain ⟨_, _, _, hpi, _, hcw⟩ := hs.out
      have hcw1 := hcw (by omega)
      have HW := Lib.hid (ctWindow_win hw.out)
      unfold cwV at HW
      have HCW : Hid (Calls Tryz.prog 54 #[.pointer (some ⟨C, 0, none⟩)] wr fun e w' => e = .returned (.int .i64 1) ∧ wr = w') := Lib.hid (by
        have h1 := winCwnd_any s t C D wr hw.out.win
        rw [hcw1] at h1
        exact h1)
      have HPI : Hid (Calls Tryz.prog 55 #[.pointer (some ⟨C, 0, none⟩)] wr fun e w' => e = .returned (.int .i64 0) ∧ wr = w') := Lib.hid (by
        have h1 := winPipe_any s t C D wr hw.out.win
        rw [hpi] at h1
        exact h1)
      clear hs hpi hcw hcw1
      go_wp2_with (first
        | (go_at_call 31; (with_reducible refine HW.out.mono ?_); rintro e wq ⟨rfl, rfl⟩)
        | (go_at_call 54; (with_reducible refine HCW.out.mono ?_); rintro e wg ⟨rfl, rfl⟩)
        | (go_at_call 55; (with_reducible refine HPI.out.mono ?_); rintro e wg ⟨rfl, rfl⟩))
      go_ret
      exact ⟨rfl, hb.out⟩
end Go.Proofs.YtnhlachoimlhhaaGreatDoor
