/-
  The law PaceFull, walked (its opening handed in).
  The law PaceFall, walked (its opening handed in).
-/
import Derived.Test.YtfmnpepgmedfpaaGreatDoorPcW
import Derived.Test.YtfmnpepgmedfpaaGreatDoorPcT
namespace Go.Proofs.YtfmnpepgmedfpaaGreatDoor
open Go.ChangeShapes Go.WideShapes Go.ChangeAt Go.RowKit
set_option linter.unusedVariables false
set_option linter.unusedSimpArgs false

/-- A call at the same time. -/
theorem PcS.fill_same (s : PcS) (h : s.hv < 18446744073709551616) (hl : s.last ≤ 4611686018427387904) : s.fill s.last = { s with hv := min s.hv s.cap } := by
  have e1 : s.at_ s.last = s.last := by unfold PcS.at_; omega
  unfold PcS.fill
  rw [e1]
  unfold PcS.to
  rw [Int.sub_self, show (0 : Int).toNat = 0 from rfl, M.mulT_zero, M.addT_zero _ h]
/-- Long behind it stood empty it is full. -/
theorem PcS.fill_full (L tk X : Nat) (a : Int) (K : Nat) (hK : (PcS.mk L tk X 0 0).cap = K) (hKb : K < 18446744073709551616) (h0 : 0 ≤ a) (h1 : a ≤ 4611686018427387904) (h2 : K ≤ X * a.toNat) : (PcS.mk L tk X 0 0).fill a = ⟨L, tk, X, K, a⟩ := by
  have e1 : (PcS.mk L tk X 0 0).at_ a = a := by unfold PcS.at_; show max (0 : Int) _ = _; omega
  have h3 := M.mulT_ge X a.toNat K h2 hKb
  have h4 := M.mulT_lt X a.toNat
  unfold PcS.fill
  rw [e1]
  unfold PcS.to
  rw [hK]
  simp only
  rw [Int.sub_zero, M.addT_at _ _ (by omega), Nat.zero_add, Nat.min_eq_right h3]
set_option maxHeartbeats 8000000 in
set_option maxRecDepth 100000 in
theorem paceFull_walk (sz : Int) (s1 : -9223372036854775808 ≤ sz) (s2 : sz ≤ 9223372036854775807) (tz : Int) (k1 : -9223372036854775808 ≤ tz) (k2 : tz ≤ 9223372036854775807) (x : Nat) (hx : x < 18446744073709551616) (dz : Int) (w : World)
    (hbg : Calls Tryz.prog 15 #[] w fun e w' => e = .returned (.bool true) ∧ Below w.heap.size w w') :
    Calls Tryz.prog 6 #[.int .i64 sz, .int .i64 tz, .int .u64 x, .int .i64 dz] w fun e w' => e = .returned (.bool true) ∧ Below w.heap.size w w' := by
  have HBG := Lib.hid hbg
  clear hbg
  obtain ⟨u0, e0, e01, e02, S0, e03, e04⟩ := mod_at sz 1400 (by decide)
  obtain ⟨v0, f0, f01, f02, tk, f03, f04⟩ := mod_at tz 100000 (by decide)
  obtain ⟨S, hS⟩ : ∃ S : Nat, 1 + (S0 : Int) = (S : Int) := ⟨1 + S0, by omega⟩
  have hS1 : 1 ≤ S := by omega
  have hS2 : S ≤ 1400 := by omega
  have htk : tk ≤ 99999 := by omega
  obtain ⟨X0, hX0⟩ : ∃ X0, x % 1000000000 = X0 := ⟨_, rfl⟩
  obtain ⟨X, hX⟩ : ∃ X : Nat, 1 + (X0 : Int) = (X : Int) := ⟨1 + X0, by omega⟩
  have hX1 : 1 ≤ X := by omega
  have hX2 : X ≤ 1000000000 := by omega
  have x1 : (x : Int) % 1000000000 = (X0 : Int) := by omega
  have x2 : (x : Int).tmod 1000000000 = (X0 : Int) := by rw [Int.tmod_eq_emod_of_nonneg (by omega)]; exact x1
  have hX0b : X0 < 1000000000 := by omega
  obtain ⟨T0, hT0⟩ : ∃ T0, min dz 1125899906842624 = T0 := ⟨_, rfl⟩
  obtain ⟨d, hd⟩ : ∃ d, max 0 T0 = d := ⟨_, rfl⟩
  obtain ⟨t1, t2, _, t4, _⟩ := mni _ _ T0 hT0
  obtain ⟨t5, t6, t7, _, t8⟩ := mxi _ _ d hd
  have hdb : d ≤ 1125899906842624 := by omega
  -- how much it holds
  have hmul : X * tk ≤ 100000000000000 := Nat.le_trans (Nat.mul_le_mul hX2 (show tk ≤ 100000 by omega)) (by decide)
  obtain ⟨K, hK⟩ : ∃ K, (PcS.mk (64000000 * S) tk X 0 0).cap = K := ⟨_, rfl⟩
  have hK2 : max (64000000 * S) (X * tk) = K := by
    rw [← hK]
    show _ = max (64000000 * S) (M.mulT X tk)
    rw [M.mulT_at X tk (by omega)]
  have hKb : K ≤ 100000000000000 := by omega
  have hKl : 64000000 ≤ K := by omega
  obtain ⟨Q, hQ⟩ : ∃ Q, K / X = Q := ⟨_, rfl⟩
  have hQb : Q ≤ K := by rw [← hQ]; exact Nat.div_le_self _ _
  have hdm := Nat.div_add_mod K X
  have hml := Nat.mod_lt K hX1
  obtain ⟨a, ha⟩ : ∃ a, (Q : Int) + 1 + d = a := ⟨_, rfl⟩
  have ha0 : 0 ≤ a := by omega
  have ha1 : a ≤ 1226000000000000 := by omega
  have hXa : K ≤ X * a.toNat := by
    have h3 : X * (Q + 1) ≤ X * a.toNat := Nat.mul_le_mul_left X (by omega)
    rw [Nat.mul_add, Nat.mul_one] at h3
    rw [hQ] at hdm
    omega
  have HFULL := PcS.fill_full (64000000 * S) tk X a K hK (by omega) ha0 (by omega) hXa
  obtain ⟨P, hP⟩ : ∃ P, K / 64000000 = P := ⟨_, rfl⟩
  obtain ⟨n, hn⟩ : ∃ n, min P 65535 = n := ⟨_, rfl⟩
  have hn1 : 1 ≤ n := by omega
  have hnb : n ≤ 65535 := by omega
  have hok1 : (PcS.mk (64000000 * S) tk X 0 0).Ok := ⟨by show 64000000 * S ≤ _; omega, by show tk ≤ _; omega, by show X < _; omega, (by decide : 0 < 18446744073709551616), ⟨Int.le_refl 0, (by decide : (0 : Int) ≤ 4611686018427387904)⟩⟩
  have hokF : (PcS.mk (64000000 * S) tk X K a).Ok := ⟨by show 64000000 * S ≤ _; omega, by show tk ≤ _; omega, by show X < _; omega, by show K < _; omega, ⟨ha0, by show a ≤ _; omega⟩⟩
  have hcapF : (PcS.mk (64000000 * S) tk X K a).cap = K := hK
  have hFF : (PcS.mk (64000000 * S) tk X K a).fill a = ⟨64000000 * S, tk, X, K, a⟩ := by
    have h9 := PcS.fill_same ⟨64000000 * S, tk, X, K, a⟩ (by show K < _; omega) (by show a ≤ _; omega)
    rw [hcapF] at h9
    rw [show (PcS.mk (64000000 * S) tk X K a).last = a from rfl] at h9
    rw [h9]
    show PcS.mk _ _ _ (min K K) _ = _
    rw [Nat.min_self]
  obtain ⟨G, hG⟩ : ∃ G, K - 64000000 * n = G := ⟨_, rfl⟩
  have hokG : (PcS.mk (64000000 * S) tk X G a).Ok := ⟨hokF.least, hokF.tick, hokF.rate, by show G < _; omega, hokF.last⟩
  have hGG : (PcS.mk (64000000 * S) tk X G a).fill a = ⟨64000000 * S, tk, X, G, a⟩ := by
    have h9 := PcS.fill_same ⟨64000000 * S, tk, X, G, a⟩ (by show G < _; omega) (by show a ≤ _; omega)
    rw [show (PcS.mk (64000000 * S) tk X G a).cap = K from hK] at h9
    rw [show (PcS.mk (64000000 * S) tk X G a).last = a from rfl] at h9
    rw [h9]
    show PcS.mk _ _ _ (min G K) _ = _
    rw [Nat.min_eq_left (by omega)]
  have hhasF : (PcS.mk (64000000 * S) tk X K a).has n = true := by rw [PcS.has_in _ n hnb]; exact decide_eq_true (by show 64000000 * n ≤ K; omega)
  obtain ⟨B, hB⟩ : ∃ B, w.heap.size = B := ⟨_, rfl⟩
  have HNEW := Lib.hid (fun W => paceNew_any S tk hS1 hS2 (by omega) W)
  have HRT : Hid (∀ W C, PcAt ⟨64000000 * S, tk, 0, 0, 0⟩ C W → Calls Tryz.prog 17 #[.pointer (some ⟨C, 0, none⟩), .int .i64 0, .int .u64 X] W fun e w' => e = .returned (.tuple #[]) ∧ PcAt ⟨64000000 * S, tk, X, 0, 0⟩ C w' ∧ Kept [C] W w') := Lib.hid (fun W C hW => by
    have h9 := paceRate_any ⟨64000000 * S, tk, 0, 0, 0⟩ (PcS.Ok.new S tk hS2 (by omega)) 0 X (by omega) C W hW
    rw [PcS.first S tk 0 X (by omega) (by omega)] at h9
    exact h9)
  have HCAP : Hid (∀ W C, PcAt ⟨64000000 * S, tk, X, 0, 0⟩ C W → Calls Tryz.prog 24 #[.pointer (some ⟨C, 0, none⟩)] W fun e w' => e = .returned (.int .u64 K) ∧ ∃ n, w' = W.drewN n) := Lib.hid (fun W C hW => by
    have h9 := paceCap_any ⟨64000000 * S, tk, X, 0, 0⟩ (by show X < _; omega) (by show tk < _; omega) C W hW
    rw [hK] at h9
    exact h9)
  have HM1 : Hid (∀ W C, PcAt ⟨64000000 * S, tk, X, 0, 0⟩ C W → Calls Tryz.prog 19 #[.pointer (some ⟨C, 0, none⟩), .int .i64 a, .int .i64 n] W fun e w' => e = .returned (.bool true) ∧ PcAt ⟨64000000 * S, tk, X, K, a⟩ C w' ∧ Kept [C] W w') := Lib.hid (fun W C hW => by
    have h9 := paceMay_any _ hok1 a n C W hW
    rw [HFULL, hhasF] at h9
    exact h9)
  have HM2 : Hid (P < 65535 → ∀ W C, PcAt ⟨64000000 * S, tk, X, K, a⟩ C W → Calls Tryz.prog 19 #[.pointer (some ⟨C, 0, none⟩), .int .i64 a, .int .i64 ((n : Int) + 1)] W fun e w' => e = .returned (.bool false) ∧ PcAt ⟨64000000 * S, tk, X, K, a⟩ C w' ∧ Kept [C] W w') := Lib.hid (fun hlt W C hW => by
    have h9 := paceMay_any _ hokF a ((n + 1 : Nat) : Int) C W hW
    rw [hFF, PcS.has_in _ (n + 1) (by omega), show decide (64000000 * (n + 1) ≤ (PcS.mk (64000000 * S) tk X K a).hv) = false from decide_eq_false (by show ¬ 64000000 * (n + 1) ≤ K; omega)] at h9
    exact h9)
  have HT1 : Hid (∀ W C, PcAt ⟨64000000 * S, tk, X, K, a⟩ C W → Calls Tryz.prog 21 #[.pointer (some ⟨C, 0, none⟩), .int .i64 a, .int .i64 n] W fun e w' => e = .returned (.bool true) ∧ PcAt ⟨64000000 * S, tk, X, G, a⟩ C w' ∧ Kept [C] W w') := Lib.hid (fun W C hW => by
    have h9 := paceTake_any _ hokF a n C W hW
    rw [hFF, hhasF, show (PcS.mk (64000000 * S) tk X K a).took n = ⟨64000000 * S, tk, X, G, a⟩ by unfold PcS.took; rw [if_pos hhasF]; show PcS.mk _ _ _ (K - 64000000 * (n : Int).toNat) _ = _; rw [Int.toNat_natCast, hG]] at h9
    exact h9)
  have HT2 : Hid (∀ W C, PcAt ⟨64000000 * S, tk, X, G, a⟩ C W → Calls Tryz.prog 21 #[.pointer (some ⟨C, 0, none⟩), .int .i64 a, .int .i64 n] W fun e w' => e = .returned (.bool (decide (131070 ≤ P))) ∧ Kept [C] W w') := Lib.hid (fun W C hW => by
    have h9 := paceTake_any _ hokG a n C W hW
    rw [hGG, PcS.has_in _ n hnb, show decide (64000000 * n ≤ (PcS.mk (64000000 * S) tk X G a).hv) = decide (131070 ≤ P) by
      show decide (64000000 * n ≤ G) = _
      by_cases h8 : 131070 ≤ P
      · rw [decide_eq_true h8]; exact decide_eq_true (by omega)
      · rw [decide_eq_false h8]; exact decide_eq_false (by omega)] at h9
    exact h9.mono fun e w' ⟨q1, q2, q3⟩ => ⟨q1, q3⟩)
  have HBe := Lib.hid hB
  have q1 : (K : Int) / (X : Int) = (Q : Int) := by rw [← hQ]; simp
  have q2 : (K : Int).tdiv (X : Int) = (Q : Int) := by rw [Int.tdiv_eq_ediv_of_nonneg (by omega)]; exact q1
  have p1 : (K : Int) / 64000000 = (P : Int) := by omega
  have p2 : (K : Int).tdiv 64000000 = (P : Int) := by rw [Int.tdiv_eq_ediv_of_nonneg (by omega)]; exact p1
  have hPb : P ≤ 1562500 := by omega
  obtain ⟨y1, y2, y3, _, _, _⟩ := mns P 65535 n hn
  have y1' : (if (65535 : Int) < (P : Int) then (65535 : Int) else (P : Int)) = (n : Int) := y1
  have y2' : (if 65535 < P then (65535 : Int) else (P : Int)) = (n : Int) := y2
  have y3' : min (P : Int) 65535 = (n : Int) := y3
  have hX3 : ¬ X = 0 := by omega
  clear hd hT0 hXa HFULL hok1 hokF hokG hcapF hFF hGG hhasF hdm hml hK hK2 hQ hmul hG y1 y2 y3
  go_enter Tryz.func6, Tryz.ntmps6
  go_upto_region 11 with (first
    | (go_at_call 15; (with_reducible refine HBG.out.mono ?_); rintro e w0 ⟨rfl, hb0⟩)
    | (go_at_call 16; (with_reducible refine (HNEW.out _).mono ?_); rintro e w1 ⟨C, rfl, h1, h2, h3⟩)
    | (go_at_call 17; (with_reducible refine (HRT.out _ _ h1).mono ?_); rintro e w2 ⟨rfl, h4, h5⟩)
    | (go_at_call 24; (with_reducible refine (HCAP.out _ _ h4).mono ?_); rintro e w3 ⟨rfl, k3, rfl⟩))
  have HB2 : Hid (Below B w (w2.drewN k3)) := Lib.hid (by
    have s0 := hb0.size
    rw [← hB]
    exact (bel_trans hb0 h3).trans ((h5.drewN k3).below (by have := h3.size; omega) (by intro q hq; simp at hq; omega)))
  have H4 : Hid (PcAt ⟨64000000 * S, tk, X, 0, 0⟩ C (w2.drewN k3)) := Lib.hid (BlkIs.drewN h4 k3)
  have HC : Hid (B ≤ C ∧ C < (w2.drewN k3).heap.size) := Lib.hid ⟨by have := hb0.size; omega, H4.out.lt⟩
  generalize w2.drewN k3 = W3 at *
  have HM1' := Lib.hid (HM1.out _ _ H4.out)
  clear hb0 h1 h2 h3 h4 h5 hB HNEW HRT HCAP HBG HM1
  have HFIN : Hid (∀ V, Kept [C] W3 V → Below w.heap.size w V) := Lib.hid (fun V hV => by rw [HBe.out]; exact HB2.out.trans (hV.below (by have := HC.out; omega) (by intro q hq; have := HC.out; simp at hq; omega)))
  clear y1' y2' y3' q1 q2 hP hn ha hX hX0 hS e0 e01 e02 e03 e04 f0 f01 f02 f03 f04 t1 t2 t4 t5 t6 t7 t8 x1 x2 hQb
  have g0 : ((n : Int) == 0) = false := by rw [beq_eq_false_iff_ne]; omega
  have g1 : ¬ n = 0 := by omega
  by_cases hlt : P < 65535
  · have d1 : decide ((P : Int) < 65535) = true := decide_eq_true (by omega)
    have HM2' := Lib.hid (HM2.out hlt)
    have hr : decide (131070 ≤ P) = false := decide_eq_false (by omega)
    rw [hr] at HT2
    clear hr
    have d2 : decide ((131070 : Int) ≤ (P : Int)) = false := decide_eq_false (by omega)
    go_wp2_with (first
      | (go_at_call 19; (first
        | ((with_reducible refine (HM2'.out _ _ l1).mono ?_); rintro e w5 ⟨rfl, l3, l4⟩)
        | ((with_reducible refine HM1'.out.mono ?_); rintro e w4 ⟨rfl, l1, l2⟩)))
      | (go_at_call 21; (first
        | ((with_reducible refine (HT2.out _ _ l5).mono ?_); rintro e w7 ⟨rfl, l7⟩)
        | ((with_reducible refine (HT1.out _ _ l3).mono ?_); rintro e w6 ⟨rfl, l5, l6⟩))))
    go_ret
    exact ⟨rfl, HFIN.out _ (((l2.trans' l4).trans' l6).trans' l7)⟩
  · have d1 : decide ((P : Int) < 65535) = false := decide_eq_false (by omega)
    by_cases h13 : 131070 ≤ P
    · have hr : decide (131070 ≤ P) = true := decide_eq_true h13
      have d2 : decide ((131070 : Int) ≤ (P : Int)) = true := decide_eq_true (by omega)
      rw [hr] at HT2
      clear hr
      go_wp2_with (first
        | (go_at_call 19; (with_reducible refine HM1'.out.mono ?_); rintro e w4 ⟨rfl, l1, l2⟩)
        | (go_at_call 21; (first
          | ((with_reducible refine (HT2.out _ _ l5).mono ?_); rintro e w7 ⟨rfl, l7⟩)
          | ((with_reducible refine (HT1.out _ _ l1).mono ?_); rintro e w6 ⟨rfl, l5, l6⟩))))
      go_ret
      exact ⟨rfl, HFIN.out _ ((l2.trans' l6).trans' l7)⟩
    · have hr : decide (131070 ≤ P) = false := decide_eq_false h13
      have d2 : decide ((131070 : Int) ≤ (P : Int)) = false := decide_eq_false (by omega)
      rw [hr] at HT2
      clear hr
      go_wp2_with (first
        | (go_at_call 19; (with_reducible refine HM1'.out.mono ?_); rintro e w4 ⟨rfl, l1, l2⟩)
        | (go_at_call 21; (first
          | ((with_reducible refine (HT2.out _ _ l5).mono ?_); rintro e w7 ⟨rfl, l7⟩)
          | ((with_reducible refine (HT1.out _ _ l1).mono ?_); rintro e w6 ⟨rfl, l5, l6⟩))))
      go_ret
      exact ⟨rfl, HFIN.out _ ((l2.trans' l6).trans' l7)⟩
end Go.Proofs.YtfmnpepgmedfpaaGreatDoor

namespace Go.Proofs.YtfmnpepgmedfpaaGreatDoor
open Go.ChangeShapes Go.WideShapes Go.ChangeAt Go.RowKit
set_option linter.unusedVariables false
set_option linter.unusedSimpArgs false

set_option maxHeartbeats 8000000 in
set_option maxRecDepth 100000 in
theorem paceFall_walk (sz : Int) (s1 : -9223372036854775808 ≤ sz) (s2 : sz ≤ 9223372036854775807) (x : Nat) (hx : x < 18446744073709551616) (y : Nat) (hy : y < 18446744073709551616) (az : Int) (w : World)
    (hbg : Calls Tryz.prog 15 #[] w fun e w' => e = .returned (.bool true) ∧ Below w.heap.size w w') :
    Calls Tryz.prog 7 #[.int .i64 sz, .int .u64 x, .int .u64 y, .int .i64 az] w fun e w' => e = .returned (.bool true) ∧ Below w.heap.size w w' := by
  have HBG := Lib.hid hbg
  clear hbg
  obtain ⟨u0, e0, e01, e02, S0, e03, e04⟩ := mod_at sz 1400 (by decide)
  obtain ⟨S, hS⟩ : ∃ S : Nat, 1 + (S0 : Int) = (S : Int) := ⟨1 + S0, by omega⟩
  have hS1 : 1 ≤ S := by omega
  have hS2 : S ≤ 1400 := by omega
  obtain ⟨X, hX⟩ : ∃ X, x % 1099511627776 = X := ⟨_, rfl⟩
  have hXb : X < 1099511627776 := by omega
  have x1 : (x : Int) % 1099511627776 = (X : Int) := by omega
  have x2 : (x : Int).tmod 1099511627776 = (X : Int) := by rw [Int.tmod_eq_emod_of_nonneg (by omega)]; exact x1
  obtain ⟨Y, hY⟩ : ∃ Y, y % 1099511627776 = Y := ⟨_, rfl⟩
  have hYb : Y < 1099511627776 := by omega
  have y1 : (y : Int) % 1099511627776 = (Y : Int) := by omega
  have y2 : (y : Int).tmod 1099511627776 = (Y : Int) := by rw [Int.tmod_eq_emod_of_nonneg (by omega)]; exact y1
  obtain ⟨T0, hT0⟩ : ∃ T0, min az 1048576 = T0 := ⟨_, rfl⟩
  obtain ⟨a, ha⟩ : ∃ a, max 0 T0 = a := ⟨_, rfl⟩
  obtain ⟨t1, t2, _, t4, _⟩ := mni _ _ T0 hT0
  obtain ⟨t5, t6, t7, _, t8⟩ := mxi _ _ a ha
  have ha2 : a ≤ 1048576 := by omega
  have hok0 : (PcS.mk (64000000 * S) 1000 0 0 0).Ok := PcS.Ok.new S 1000 hS2 (by decide)
  have e1 := PcS.first S 1000 0 X (by decide) (by decide)
  have hok1 : (PcS.mk (64000000 * S) 1000 X 0 0).Ok := ⟨hok0.least, hok0.tick, by show X < _; omega, hok0.hv, hok0.last⟩
  obtain ⟨t, ht⟩ : ∃ t, ((PcS.mk (64000000 * S) 1000 X 0 0).fill a).rated Y = t := ⟨_, rfl⟩
  have hokt : t.Ok := by rw [← ht]; exact (hok1.fill a).rated Y (by omega)
  have hlast : t.last = a := by
    rw [← ht]
    show (PcS.mk (64000000 * S) 1000 X 0 0).at_ a = a
    unfold PcS.at_
    show max (0 : Int) _ = _
    omega
  have hcap : t.cap = max (64000000 * S) (M.mulT Y 1000) := by rw [← ht]; rfl
  have hvc : t.hv ≤ t.cap := by rw [← ht]; exact Nat.min_le_right _ _
  have hfill : t.fill a = t := by
    have h9 := t.fill_same hokt.hv (by rw [hlast]; omega)
    rw [Nat.min_eq_left hvc] at h9
    rw [← hlast]
    exact h9
  obtain ⟨H, hH⟩ : ∃ H, t.hv = H := ⟨_, rfl⟩
  have hHb : H < 18446744073709551616 := by rw [← hH]; exact hokt.hv
  obtain ⟨P, hP⟩ : ∃ P, H / 64000000 = P := ⟨_, rfl⟩
  obtain ⟨n, hn⟩ : ∃ n, min P 65535 = n := ⟨_, rfl⟩
  have hnb : n ≤ 65535 := by omega
  have hh1 : t.has n = true := by rw [t.has_in n hnb, hH]; exact decide_eq_true (by omega)
  obtain ⟨B, hB⟩ : ∃ B, w.heap.size = B := ⟨_, rfl⟩
  have HNEW : Hid (∀ W, Calls Tryz.prog 16 #[.int .i64 S, .int .i64 1000] W fun e w' => ∃ C, e = .returned (.pointer (some ⟨C, 0, none⟩)) ∧ PcAt ⟨64000000 * S, 1000, 0, 0, 0⟩ C w' ∧ W.heap.size ≤ C ∧ Below W.heap.size W w') := Lib.hid (fun W => paceNew_any S 1000 hS1 hS2 (by decide) W)
  have HR1 : Hid (∀ W C, PcAt ⟨64000000 * S, 1000, 0, 0, 0⟩ C W → Calls Tryz.prog 17 #[.pointer (some ⟨C, 0, none⟩), .int .i64 0, .int .u64 X] W fun e w' => e = .returned (.tuple #[]) ∧ PcAt ⟨64000000 * S, 1000, X, 0, 0⟩ C w' ∧ Kept [C] W w') := Lib.hid (fun W C hW => by
    have h9 := paceRate_any _ hok0 0 X (by omega) C W hW
    rw [e1] at h9
    exact h9)
  have HR2 : Hid (∀ W D, RpAt ⟨64000000 * S, 1000, 0, 0, 0⟩ S D W → Calls Tryz.prog 18 #[.pointer (some ⟨D, 0, none⟩), .int .i64 0, .int .u64 X] W fun e w' => e = .returned (.tuple #[]) ∧ RpAt ⟨64000000 * S, 1000, X, 0, 0⟩ S D w' ∧ Kept [D] W w') := Lib.hid (fun W D hW => by
    have h9 := rpRate_any _ hok0 S hS2 0 (by decide) (by decide) X (by omega) D W hW
    rw [e1] at h9
    exact h9)
  have HR3 : Hid (∀ W C, PcAt ⟨64000000 * S, 1000, X, 0, 0⟩ C W → Calls Tryz.prog 17 #[.pointer (some ⟨C, 0, none⟩), .int .i64 a, .int .u64 Y] W fun e w' => e = .returned (.tuple #[]) ∧ PcAt t C w' ∧ Kept [C] W w') := Lib.hid (fun W C hW => by
    have h9 := paceRate_any _ hok1 a Y (by omega) C W hW
    rw [ht] at h9
    exact h9)
  have HR4 : Hid (∀ W D, RpAt ⟨64000000 * S, 1000, X, 0, 0⟩ S D W → Calls Tryz.prog 18 #[.pointer (some ⟨D, 0, none⟩), .int .i64 a, .int .u64 Y] W fun e w' => e = .returned (.tuple #[]) ∧ RpAt t S D w' ∧ Kept [D] W w') := Lib.hid (fun W D hW => by
    have h9 := rpRate_any _ hok1 S hS2 a (by omega) (by omega) Y (by omega) D W hW
    rw [ht] at h9
    exact h9)
  obtain ⟨V, hV⟩ : ∃ V, M.mulT Y 1000 = V := ⟨_, rfl⟩
  obtain ⟨K, hK⟩ : ∃ K, t.cap = K := ⟨_, rfl⟩
  rw [hK, hV] at hcap
  obtain ⟨L, hL⟩ : ∃ L, 64000000 * S = L := ⟨_, rfl⟩
  rw [hL] at hcap
  obtain ⟨m1, m2, m3, _, _, _⟩ := mxs L V K hcap.symm
  have i1 : (64000000 : Int) * (S : Int) = (L : Int) := by omega
  have hLb : L ≤ 89600000000 := by omega
  have i2 : IntKind.u64.wrap (L : Int) = (L : Int) := by rw [IntKind.wrap_u64]; omega
  have HMU : Hid (∀ W, Calls Tryz.prog 26 #[.int .u64 Y, .int .u64 1000] W fun e w' => e = .returned (.int .u64 V) ∧ W = w') := Lib.hid (fun W => by rw [← hV]; exact refMul_any Y 1000 (by omega) (by decide) W)
  have HCP : Hid (∀ W C, PcAt t C W → Calls Tryz.prog 24 #[.pointer (some ⟨C, 0, none⟩)] W fun e w' => e = .returned (.int .u64 K) ∧ ∃ n, w' = W.drewN n) := Lib.hid (fun W C hW => by
    have h9 := paceCap_any t hokt.rate (by have := hokt.tick; omega) C W hW
    rw [hK] at h9
    exact h9)
  have HM1 : Hid (∀ W C, PcAt t C W → Calls Tryz.prog 19 #[.pointer (some ⟨C, 0, none⟩), .int .i64 a, .int .i64 n] W fun e w' => e = .returned (.bool true) ∧ PcAt t C w' ∧ Kept [C] W w') := Lib.hid (fun W C hW => by
    have h9 := paceMay_any t hokt a n C W hW
    rw [hfill, hh1] at h9
    exact h9)
  have HM2 : Hid (n < 65535 → ∀ W C, PcAt t C W → Calls Tryz.prog 19 #[.pointer (some ⟨C, 0, none⟩), .int .i64 a, .int .i64 ((n : Int) + 1)] W fun e w' => e = .returned (.bool false) ∧ PcAt t C w' ∧ Kept [C] W w') := Lib.hid (fun hlt W C hW => by
    have h9 := paceMay_any t hokt a ((n + 1 : Nat) : Int) C W hW
    rw [hfill, t.has_in (n + 1) (by omega), hH, show decide (64000000 * (n + 1) ≤ H) = false from decide_eq_false (by omega)] at h9
    exact h9)
  have HBe := Lib.hid hB
  have p1 : (H : Int) / 64000000 = (P : Int) := by omega
  have p2 : (H : Int).tdiv 64000000 = (P : Int) := by rw [Int.tdiv_eq_ediv_of_nonneg (by omega)]; exact p1
  obtain ⟨j1, j2, j3, _, _, _⟩ := mns P 65535 n hn
  have j1' : (if (65535 : Int) < (P : Int) then (65535 : Int) else (P : Int)) = (n : Int) := j1
  have j2' : (if 65535 < P then (65535 : Int) else (P : Int)) = (n : Int) := j2
  have j3' : min (P : Int) 65535 = (n : Int) := j3
  have HV := Lib.hid hH
  clear ha hT0 hok0 hok1 ht hokt hlast hvc hfill hh1 hcap hK hV hL hX hY e1 hH hP hn j1 j2 j3
  go_enter Tryz.func7, Tryz.ntmps7
  go_upto_region 6 with (first
    | (go_at_call 15; (with_reducible refine HBG.out.mono ?_); rintro e w0 ⟨rfl, hb0⟩)
    | (go_at_call 16; (with_reducible refine (HNEW.out _).mono ?_); rintro e w1 ⟨C, rfl, h1, h2, h3⟩))
  have HB1 : Hid (Below B w (w1.alloc (.cells (rpCells ⟨64000000 * S, 1000, 0, 0, 0⟩ S) 29))) := Lib.hid (by
    rw [← hB]
    exact bel_trans (bel_trans hb0 h3) (bel_alloc _ _))
  have HD : Hid (B ≤ C ∧ C < w1.heap.size) := Lib.hid ⟨by have := hb0.size; omega, h1.lt⟩
  have hp2 : PcAt ⟨64000000 * S, 1000, 0, 0, 0⟩ C (w1.alloc (.cells (rpCells ⟨64000000 * S, 1000, 0, 0, 0⟩ S) 29)) := BlkIs.alloc h1 _
  have hr2 : RpAt ⟨64000000 * S, 1000, 0, 0, 0⟩ S w1.heap.size (w1.alloc (.cells (rpCells ⟨64000000 * S, 1000, 0, 0, 0⟩ S) 29)) := ⟨BlkIs.new _ _ _, rfl⟩
  obtain ⟨W2, hW2⟩ : ∃ W2, w1.alloc (.cells (rpCells ⟨64000000 * S, 1000, 0, 0, 0⟩ S) 29) = W2 := ⟨_, rfl⟩
  have hW2' : w1.alloc (.cells #[.int .u64 (S : Nat), .int .u64 0, .int .u64 1000, .int .u64 0, .int .i64 0] 29) = W2 := hW2
  rw [hW2] at HB1 hp2 hr2
  rw [hW2']
  obtain ⟨D, hD⟩ : ∃ D, w1.heap.size = D := ⟨_, rfl⟩
  rw [hD] at hr2 HD ⊢
  have hdl : D < W2.heap.size := hr2.blk.lt
  have HDL := Lib.hid hdl
  have HP2 := Lib.hid hp2
  have HRP := Lib.hid hr2
  have hCD : C ≠ D := by have := HD.out; omega
  have hDC : D ≠ C := fun e => hCD e.symm
  clear hW2 hW2' hb0 h1 h2 h3 hB hD hp2 hr2 hdl HNEW HBG e0 e03
  have HFIN : Hid (∀ V, Kept [C, D] W2 V → Below w.heap.size w V) := Lib.hid (fun V hV => by rw [HBe.out]; exact HB1.out.trans (hV.below (by have := HD.out; have := HDL.out; omega) (by intro q hq; have := HD.out; simp at hq; omega)))
  have HR1' := Lib.hid (HR1.out W2 C HP2.out)
  go_upto_region 10 with (first
    | (go_at_call 17; (first
      | ((with_reducible refine HR1'.out.mono ?_); rintro e w3 ⟨rfl, l1, l2⟩; have lr := HRP.out.kept l2 (by simpa using hDC))
      | ((with_reducible refine (HR3.out _ _ lp).mono ?_); rintro e w5 ⟨rfl, l5, l6⟩; have lr2 := l3.kept l6 (by simpa using hDC))))
    | (go_at_call 18; (first
      | ((with_reducible refine (HR2.out _ _ lr).mono ?_); rintro e w4 ⟨rfl, l3, l4⟩; have lp : PcAt ⟨64000000 * S, 1000, X, 0, 0⟩ C w4 := BlkIs.kept l1 l4 (by simpa using hCD))
      | ((with_reducible refine (HR4.out _ _ lr2).mono ?_); rintro e w6 ⟨rfl, l7, l8⟩; have lp2 : PcAt t C w6 := BlkIs.kept l5 l8 (by simpa using hCD)))))
  have hk6 : Kept [C, D] W2 w6 := (((l2.more (fun q hq => by simp at hq; simp [hq])).trans' (l4.more (fun q hq => by simp at hq; simp [hq]))).trans' (l6.more (fun q hq => by simp at hq; simp [hq]))).trans' (l8.more (fun q hq => by simp at hq; simp [hq]))
  have c3 : w6.cell? ⟨D, 3, none⟩ = some (.int .u64 H) := by rw [l7.cells.2.2.2.1, HV.out]
  have HP6 := Lib.hid lp2
  have HK6 := Lib.hid hk6
  clear l1 l2 lr lp l3 l4 l5 l6 lr2 l7 l8 lp2 hk6 HR1 HR1' HR2 HR3 HR4 HP2 HRP
  have HCP6 := Lib.hid (HCP.out w6 C HP6.out)
  by_cases hlt : n < 65535
  · have g0 : ((n : Int) == 65535) = false := by rw [beq_eq_false_iff_ne]; omega
    have g1 : ¬ n = 65535 := by omega
    have HM2' := Lib.hid (HM2.out hlt)
    go_wp2_with (first
      | (go_at_call 24; (with_reducible refine HCP6.out.mono ?_); rintro e w7 ⟨rfl, n7, rfl⟩; have l9 : PcAt t C (w6.drewN n7) := BlkIs.drewN HP6.out n7)
      | (go_at_call 26; (with_reducible refine (HMU.out _).mono ?_); rintro e w8 ⟨rfl, rfl⟩)
      | (go_at_call 19; (first
        | ((with_reducible refine (HM2'.out _ _ l10).mono ?_); rintro e wa ⟨rfl, l12, l13⟩)
        | ((with_reducible refine (HM1.out _ _ l9).mono ?_); rintro e w9 ⟨rfl, l10, l11⟩))))
    go_ret
    exact ⟨rfl, HFIN.out _ ((HK6.out.drewN n7).trans' ((l11.trans' l13).more (fun q hq => by simp at hq; simp [hq])))⟩
  · have g0 : ((n : Int) == 65535) = true := by rw [beq_iff_eq]; omega
    have g1 : n = 65535 := by omega
    subst g1
    go_wp2_with (first
      | (go_at_call 24; (with_reducible refine HCP6.out.mono ?_); rintro e w7 ⟨rfl, n7, rfl⟩; have l9 : PcAt t C (w6.drewN n7) := BlkIs.drewN HP6.out n7)
      | (go_at_call 26; (with_reducible refine (HMU.out _).mono ?_); rintro e w8 ⟨rfl, rfl⟩)
      | (go_at_call 19; (refine (HM1.out _ _ l9).mono ?_); rintro e w9 ⟨rfl, l10, l11⟩))
    go_ret
    exact ⟨rfl, HFIN.out _ ((HK6.out.drewN n7).trans' (l11.more (fun q hq => by simp at hq; simp [hq])))⟩
end Go.Proofs.YtfmnpepgmedfpaaGreatDoor
