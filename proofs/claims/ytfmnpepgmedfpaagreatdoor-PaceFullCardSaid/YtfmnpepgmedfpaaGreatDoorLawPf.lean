/-
  The law PaceFull, walked (its opening handed in).
-/
import Derived.Test.YtfmnpepgmedfpaaGreatDoorPcW
namespace Go.Proofs.YtfmnpepgmedfpaaGreatDoor
open Go.ChangeShapes Go.WideShapes Go.ChangeAt Go.RowKit
set_option linter.unusedVariables false
set_option linter.unusedSimpArgs false

/-- A call at the same time. -/
theorem PcS.fill_same (s : PcS) (h : s.hv < 18446744073709551616) (hl : s.last ≤ 4611686018427387904) : s.fill s.last = { s with hv := min s.hv s.cap } := by
  have e1 : s.at_ s.last = s.last := by unfold PcS.at_; omega
  unfold PcS.fill
  rw [e1]
  unfold PcS.to
  rw [Int.sub_self, show (0 : Int).toNat = 0 from rfl, M.mulT_zero, M.addT_zero _ h]
/-- Long behind it stood empty it is full. -/
theorem PcS.fill_full (L tk X : Nat) (a : Int) (K : Nat) (hK : (PcS.mk L tk X 0 0).cap = K) (hKb : K < 18446744073709551616) (h0 : 0 ≤ a) (h1 : a ≤ 4611686018427387904) (h2 : K ≤ X * a.toNat) : (PcS.mk L tk X 0 0).fill a = ⟨L, tk, X, K, a⟩ := by
  have e1 : (PcS.mk L tk X 0 0).at_ a = a := by unfold PcS.at_; show max (0 : Int) _ = _; omega
  have h3 := M.mulT_ge X a.toNat K h2 hKb
  have h4 := M.mulT_lt X a.toNat
  unfold PcS.fill
  rw [e1]
  unfold PcS.to
  rw [hK]
  simp only
  rw [Int.sub_zero, M.addT_at _ _ (by omega), Nat.zero_add, Nat.min_eq_right h3]
set_option maxHeartbeats 8000000 in
set_option maxRecDepth 100000 in
theorem paceFull_walk (sz : Int) (s1 : -9223372036854775808 ≤ sz) (s2 : sz ≤ 9223372036854775807) (tz : Int) (k1 : -9223372036854775808 ≤ tz) (k2 : tz ≤ 9223372036854775807) (x : Nat) (hx : x < 18446744073709551616) (dz : Int) (w : World)
    (hbg : Calls Tryz.prog 15 #[] w fun e w' => e = .returned (.bool true) ∧ Below w.heap.size w w') :
    Calls Tryz.prog 6 #[.int .i64 sz, .int .i64 tz, .int .u64 x, .int .i64 dz] w fun e w' => e = .returned (.bool true) ∧ Below w.heap.size w w' := by
  have HBG := Lib.hid hbg
  clear hbg
  obtain ⟨u0, e0, e01, e02, S0, e03, e04⟩ := mod_at sz 1400 (by decide)
  obtain ⟨v0, f0, f01, f02, tk, f03, f04⟩ := mod_at tz 100000 (by decide)
  obtain ⟨S, hS⟩ : ∃ S : Nat, 1 + (S0 : Int) = (S : Int) := ⟨1 + S0, by omega⟩
  have hS1 : 1 ≤ S := by omega
  have hS2 : S ≤ 1400 := by omega
  have htk : tk ≤ 99999 := by omega
  obtain ⟨X0, hX0⟩ : ∃ X0, x % 1000000000 = X0 := ⟨_, rfl⟩
  obtain ⟨X, hX⟩ : ∃ X : Nat, 1 + (X0 : Int) = (X : Int) := ⟨1 + X0, by omega⟩
  have hX1 : 1 ≤ X := by omega
  have hX2 : X ≤ 1000000000 := by omega
  have x1 : (x : Int) % 1000000000 = (X0 : Int) := by omega
  have x2 : (x : Int).tmod 1000000000 = (X0 : Int) := by rw [Int.tmod_eq_emod_of_nonneg (by omega)]; exact x1
  have hX0b : X0 < 1000000000 := by omega
  obtain ⟨T0, hT0⟩ : ∃ T0, min dz 1125899906842624 = T0 := ⟨_, rfl⟩
  obtain ⟨d, hd⟩ : ∃ d, max 0 T0 = d := ⟨_, rfl⟩
  obtain ⟨t1, t2, _, t4, _⟩ := mni _ _ T0 hT0
  obtain ⟨t5, t6, t7, _, t8⟩ := mxi _ _ d hd
  have hdb : d ≤ 1125899906842624 := by omega
  -- how much it holds
  have hmul : X * tk ≤ 100000000000000 := Nat.le_trans (Nat.mul_le_mul hX2 (show tk ≤ 100000 by omega)) (by decide)
  obtain ⟨K, hK⟩ : ∃ K, (PcS.mk (64000000 * S) tk X 0 0).cap = K := ⟨_, rfl⟩
  have hK2 : max (64000000 * S) (X * tk) = K := by
    rw [← hK]
    show _ = max (64000000 * S) (M.mulT X tk)
    rw [M.mulT_at X tk (by omega)]
  have hKb : K ≤ 100000000000000 := by omega
  have hKl : 64000000 ≤ K := by omega
  obtain ⟨Q, hQ⟩ : ∃ Q, K / X = Q := ⟨_, rfl⟩
  have hQb : Q ≤ K := by rw [← hQ]; exact Nat.div_le_self _ _
  have hdm := Nat.div_add_mod K X
  have hml := Nat.mod_lt K hX1
  obtain ⟨a, ha⟩ : ∃ a, (Q : Int) + 1 + d = a := ⟨_, rfl⟩
  have ha0 : 0 ≤ a := by omega
  have ha1 : a ≤ 1226000000000000 := by omega
  have hXa : K ≤ X * a.toNat := by
    have h3 : X * (Q + 1) ≤ X * a.toNat := Nat.mul_le_mul_left X (by omega)
    rw [Nat.mul_add, Nat.mul_one] at h3
    rw [hQ] at hdm
    omega
  have HFULL := PcS.fill_full (64000000 * S) tk X a K hK (by omega) ha0 (by omega) hXa
  obtain ⟨P, hP⟩ : ∃ P, K / 64000000 = P := ⟨_, rfl⟩
  obtain ⟨n, hn⟩ : ∃ n, min P 65535 = n := ⟨_, rfl⟩
  have hn1 : 1 ≤ n := by omega
  have hnb : n ≤ 65535 := by omega
  have hok1 : (PcS.mk (64000000 * S) tk X 0 0).Ok := ⟨by show 64000000 * S ≤ _; omega, by show tk ≤ _; omega, by show X < _; omega, (by decide : 0 < 18446744073709551616), ⟨Int.le_refl 0, (by decide : (0 : Int) ≤ 4611686018427387904)⟩⟩
  have hokF : (PcS.mk (64000000 * S) tk X K a).Ok := ⟨by show 64000000 * S ≤ _; omega, by show tk ≤ _; omega, by show X < _; omega, by show K < _; omega, ⟨ha0, by show a ≤ _; omega⟩⟩
  have hcapF : (PcS.mk (64000000 * S) tk X K a).cap = K := hK
  have hFF : (PcS.mk (64000000 * S) tk X K a).fill a = ⟨64000000 * S, tk, X, K, a⟩ := by
    have h9 := PcS.fill_same ⟨64000000 * S, tk, X, K, a⟩ (by show K < _; omega) (by show a ≤ _; omega)
    rw [hcapF] at h9
    rw [show (PcS.mk (64000000 * S) tk X K a).last = a from rfl] at h9
    rw [h9]
    show PcS.mk _ _ _ (min K K) _ = _
    rw [Nat.min_self]
  obtain ⟨G, hG⟩ : ∃ G, K - 64000000 * n = G := ⟨_, rfl⟩
  have hokG : (PcS.mk (64000000 * S) tk X G a).Ok := ⟨hokF.least, hokF.tick, hokF.rate, by show G < _; omega, hokF.last⟩
  have hGG : (PcS.mk (64000000 * S) tk X G a).fill a = ⟨64000000 * S, tk, X, G, a⟩ := by
    have h9 := PcS.fill_same ⟨64000000 * S, tk, X, G, a⟩ (by show G < _; omega) (by show a ≤ _; omega)
    rw [show (PcS.mk (64000000 * S) tk X G a).cap = K from hK] at h9
    rw [show (PcS.mk (64000000 * S) tk X G a).last = a from rfl] at h9
    rw [h9]
    show PcS.mk _ _ _ (min G K) _ = _
    rw [Nat.min_eq_left (by omega)]
  have hhasF : (PcS.mk (64000000 * S) tk X K a).has n = true := by rw [PcS.has_in _ n hnb]; exact decide_eq_true (by show 64000000 * n ≤ K; omega)
  obtain ⟨B, hB⟩ : ∃ B, w.heap.size = B := ⟨_, rfl⟩
  have HNEW := Lib.hid (fun W => paceNew_any S tk hS1 hS2 (by omega) W)
  have HRT : Hid (∀ W C, PcAt ⟨64000000 * S, tk, 0, 0, 0⟩ C W → Calls Tryz.prog 17 #[.pointer (some ⟨C, 0, none⟩), .int .i64 0, .int .u64 X] W fun e w' => e = .returned (.tuple #[]) ∧ PcAt ⟨64000000 * S, tk, X, 0, 0⟩ C w' ∧ Kept [C] W w') := Lib.hid (fun W C hW => by
    have h9 := paceRate_any ⟨64000000 * S, tk, 0, 0, 0⟩ (PcS.Ok.new S tk hS2 (by omega)) 0 X (by omega) C W hW
    rw [PcS.first S tk 0 X (by omega) (by omega)] at h9
    exact h9)
  have HCAP : Hid (∀ W C, PcAt ⟨64000000 * S, tk, X, 0, 0⟩ C W → Calls Tryz.prog 24 #[.pointer (some ⟨C, 0, none⟩)] W fun e w' => e = .returned (.int .u64 K) ∧ ∃ n, w' = W.drewN n) := Lib.hid (fun W C hW => by
    have h9 := paceCap_any ⟨64000000 * S, tk, X, 0, 0⟩ (by show X < _; omega) (by show tk < _; omega) C W hW
    rw [hK] at h9
    exact h9)
  have HM1 : Hid (∀ W C, PcAt ⟨64000000 * S, tk, X, 0, 0⟩ C W → Calls Tryz.prog 19 #[.pointer (some ⟨C, 0, none⟩), .int .i64 a, .int .i64 n] W fun e w' => e = .returned (.bool true) ∧ PcAt ⟨64000000 * S, tk, X, K, a⟩ C w' ∧ Kept [C] W w') := Lib.hid (fun W C hW => by
    have h9 := paceMay_any _ hok1 a n C W hW
    rw [HFULL, hhasF] at h9
    exact h9)
  have HM2 : Hid (P < 65535 → ∀ W C, PcAt ⟨64000000 * S, tk, X, K, a⟩ C W → Calls Tryz.prog 19 #[.pointer (some ⟨C, 0, none⟩), .int .i64 a, .int .i64 ((n : Int) + 1)] W fun e w' => e = .returned (.bool false) ∧ PcAt ⟨64000000 * S, tk, X, K, a⟩ C w' ∧ Kept [C] W w') := Lib.hid (fun hlt W C hW => by
    have h9 := paceMay_any _ hokF a ((n + 1 : Nat) : Int) C W hW
    rw [hFF, PcS.has_in _ (n + 1) (by omega), show decide (64000000 * (n + 1) ≤ (PcS.mk (64000000 * S) tk X K a).hv) = false from decide_eq_false (by show ¬ 64000000 * (n + 1) ≤ K; omega)] at h9
    exact h9)
  have HT1 : Hid (∀ W C, PcAt ⟨64000000 * S, tk, X, K, a⟩ C W → Calls Tryz.prog 21 #[.pointer (some ⟨C, 0, none⟩), .int .i64 a, .int .i64 n] W fun e w' => e = .returned (.bool true) ∧ PcAt ⟨64000000 * S, tk, X, G, a⟩ C w' ∧ Kept [C] W w') := Lib.hid (fun W C hW => by
    have h9 := paceTake_any _ hokF a n C W hW
    rw [hFF, hhasF, show (PcS.mk (64000000 * S) tk X K a).took n = ⟨64000000 * S, tk, X, G, a⟩ by unfold PcS.took; rw [if_pos hhasF]; show PcS.mk _ _ _ (K - 64000000 * (n : Int).toNat) _ = _; rw [Int.toNat_natCast, hG]] at h9
    exact h9)
  have HT2 : Hid (∀ W C, PcAt ⟨64000000 * S, tk, X, G, a⟩ C W → Calls Tryz.prog 21 #[.pointer (some ⟨C, 0, none⟩), .int .i64 a, .int .i64 n] W fun e w' => e = .returned (.bool (decide (131070 ≤ P))) ∧ Kept [C] W w') := Lib.hid (fun W C hW => by
    have h9 := paceTake_any _ hokG a n C W hW
    rw [hGG, PcS.has_in _ n hnb, show decide (64000000 * n ≤ (PcS.mk (64000000 * S) tk X G a).hv) = decide (131070 ≤ P) by
      show decide (64000000 * n ≤ G) = _
      by_cases h8 : 131070 ≤ P
      · rw [decide_eq_true h8]; exact decide_eq_true (by omega)
      · rw [decide_eq_false h8]; exact decide_eq_false (by omega)] at h9
    exact h9.mono fun e w' ⟨q1, q2, q3⟩ => ⟨q1, q3⟩)
  have HBe := Lib.hid hB
  have q1 : (K : Int) / (X : Int) = (Q : Int) := by rw [← hQ]; simp
  have q2 : (K : Int).tdiv (X : Int) = (Q : Int) := by rw [Int.tdiv_eq_ediv_of_nonneg (by omega)]; exact q1
  have p1 : (K : Int) / 64000000 = (P : Int) := by omega
  have p2 : (K : Int).tdiv 64000000 = (P : Int) := by rw [Int.tdiv_eq_ediv_of_nonneg (by omega)]; exact p1
  have hPb : P ≤ 1562500 := by omega
  obtain ⟨y1, y2, y3, _, _, _⟩ := mns P 65535 n hn
  have y1' : (if (65535 : Int) < (P : Int) then (65535 : Int) else (P : Int)) = (n : Int) := y1
  have y2' : (if 65535 < P then (65535 : Int) else (P : Int)) = (n : Int) := y2
  have y3' : min (P : Int) 65535 = (n : Int) := y3
  have hX3 : ¬ X = 0 := by omega
  clear hd hT0 hXa HFULL hok1 hokF hokG hcapF hFF hGG hhasF hdm hml hK hK2 hQ hmul hG y1 y2 y3
  go_enter Tryz.func6, Tryz.ntmps6
  go_upto_region 11 with (first
    | (go_at_call 15; (with_reducible refine HBG.out.mono ?_); rintro e w0 ⟨rfl, hb0⟩)
    | (go_at_call 16; (with_reducible refine (HNEW.out _).mono ?_); rintro e w1 ⟨C, rfl, h1, h2, h3⟩)
    | (go_at_call 17; (with_reducible refine (HRT.out _ _ h1).mono ?_); rintro e w2 ⟨rfl, h4, h5⟩)
    | (go_at_call 24; (with_reducible refine (HCAP.out _ _ h4).mono ?_); rintro e w3 ⟨rfl, k3, rfl⟩))
  have HB2 : Hid (Below B w (w2.drewN k3)) := Lib.hid (by
    have s0 := hb0.size
    rw [← hB]
    exact (bel_trans hb0 h3).trans ((h5.drewN k3).below (by have := h3.size; omega) (by intro q hq; simp at hq; omega)))
  have H4 : Hid (PcAt ⟨64000000 * S, tk, X, 0, 0⟩ C (w2.drewN k3)) := Lib.hid (BlkIs.drewN h4 k3)
  have HC : Hid (B ≤ C ∧ C < (w2.drewN k3).heap.size) := Lib.hid ⟨by have := hb0.size; omega, H4.out.lt⟩
  generalize w2.drewN k3 = W3 at *
  have HM1' := Lib.hid (HM1.out _ _ H4.out)
  clear hb0 h1 h2 h3 h4 h5 hB HNEW HRT HCAP HBG HM1
  have HFIN : Hid (∀ V, Kept [C] W3 V → Below w.heap.size w V) := Lib.hid (fun V hV => by rw [HBe.out]; exact HB2.out.trans (hV.below (by have := HC.out; omega) (by intro q hq; have := HC.out; simp at hq; omega)))
  clear y1' y2' y3' q1 q2 hP hn ha hX hX0 hS e0 e01 e02 e03 e04 f0 f01 f02 f03 f04 t1 t2 t4 t5 t6 t7 t8 x1 x2 hQb
  have g0 : ((n : Int) == 0) = false := by rw [beq_eq_false_iff_ne]; omega
  have g1 : ¬ n = 0 := by omega
  by_cases hlt : P < 65535
  · have d1 : decide ((P : Int) < 65535) = true := decide_eq_true (by omega)
    have HM2' := Lib.hid (HM2.out hlt)
    have hr : decide (131070 ≤ P) = false := decide_eq_false (by omega)
    rw [hr] at HT2
    clear hr
    have d2 : decide ((131070 : Int) ≤ (P : Int)) = false := decide_eq_false (by omega)
    go_wp2_with (first
      | (go_at_call 19; (first
        | ((with_reducible refine (HM2'.out _ _ l1).mono ?_); rintro e w5 ⟨rfl, l3, l4⟩)
        | ((with_reducible refine HM1'.out.mono ?_); rintro e w4 ⟨rfl, l1, l2⟩)))
      | (go_at_call 21; (first
        | ((with_reducible refine (HT2.out _ _ l5).mono ?_); rintro e w7 ⟨rfl, l7⟩)
        | ((with_reducible refine (HT1.out _ _ l3).mono ?_); rintro e w6 ⟨rfl, l5, l6⟩))))
    go_ret
    exact ⟨rfl, HFIN.out _ (((l2.trans' l4).trans' l6).trans' l7)⟩
  · have d1 : decide ((P : Int) < 65535) = false := decide_eq_false (by omega)
    by_cases h13 : 131070 ≤ P
    · have hr : decide (131070 ≤ P) = true := decide_eq_true h13
      have d2 : decide ((131070 : Int) ≤ (P : Int)) = true := decide_eq_true (by omega)
      rw [hr] at HT2
      clear hr
      go_wp2_with (first
        | (go_at_call 19; (with_reducible refine HM1'.out.mono ?_); rintro e w4 ⟨rfl, l1, l2⟩)
        | (go_at_call 21; (first
          | ((with_reducible refine (HT2.out _ _ l5).mono ?_); rintro e w7 ⟨rfl, l7⟩)
          | ((with_reducible refine (HT1.out _ _ l1).mono ?_); rintro e w6 ⟨rfl, l5, l6⟩))))
      go_ret
      exact ⟨rfl, HFIN.out _ ((l2.trans' l6).trans' l7)⟩
    · have hr : decide (131070 ≤ P) = false := decide_eq_false h13
      have d2 : decide ((131070 : Int) ≤ (P : Int)) = false := decide_eq_false (by omega)
      rw [hr] at HT2
      clear hr
      go_wp2_with (first
        | (go_at_call 19; (with_reducible refine HM1'.out.mono ?_); rintro e w4 ⟨rfl, l1, l2⟩)
        | (go_at_call 21; (first
          | ((with_reducible refine (HT2.out _ _ l5).mono ?_); rintro e w7 ⟨rfl, l7⟩)
          | ((with_reducible refine (HT1.out _ _ l1).mono ?_); rintro e w6 ⟨rfl, l5, l6⟩))))
      go_ret
      exact ⟨rfl, HFIN.out _ ((l2.trans' l6).trans' l7)⟩
end Go.Proofs.YtfmnpepgmedfpaaGreatDoor
