/-
  The law PaceWhen, walked (its opening handed in).
-/
import Derived.Test.YtfmnpepgmedfpaaGreatDoorPcW
namespace Go.Proofs.YtfmnpepgmedfpaaGreatDoor
open Go.ChangeShapes Go.WideShapes Go.ChangeAt Go.RowKit
set_option linter.unusedVariables false
set_option linter.unusedSimpArgs false

def pw (S X : Nat) (a : Int) : PcS := ⟨64000000 * S, 0, X, 0, a⟩
theorem pw_cap (S X : Nat) (a : Int) : (pw S X a).cap = 64000000 * S := by unfold PcS.cap pw; rw [M.mulT_zero]; simp
theorem pw_ok (S X : Nat) (a : Int) (h1 : S ≤ 1400) (h2 : X < 18446744073709551616) (h3 : 0 ≤ a) (h4 : a ≤ 4611686018427387904) : (pw S X a).Ok := ⟨by show 64000000 * S ≤ _; omega, (by decide : 0 ≤ 1000000), h2, (by decide : 0 < 18446744073709551616), ⟨h3, h4⟩⟩
theorem pw_zero (S X : Nat) (a : Int) : (pw S X a).when_ 0 = a := by unfold PcS.when_; rw [if_pos ⟨by decide, by decide⟩, if_pos (by show 64000000 * (0 : Int).toNat ≤ 0; decide)]; rfl
theorem pw_never (S X n : Nat) (a : Int) (h1 : 1 ≤ n) (h2 : n ≤ 65535) (h : S < n ∨ X = 0) : (pw S X a).when_ n = 4611686018427387904 := by
  unfold PcS.when_
  rw [if_pos ⟨by omega, by omega⟩, Int.toNat_natCast, if_neg (by show ¬ 64000000 * n ≤ 0; omega), if_pos (by rw [pw_cap]; rcases h with h | h; exact .inl (by omega); exact .inr h)]
theorem pw_some (S X n : Nat) (a : Int) (h1 : 1 ≤ n) (h2 : n ≤ S) (hS : S ≤ 1400) (hX : 1 ≤ X) (ha : 0 ≤ a) (ha2 : a ≤ 1099511627776) : (pw S X a).when_ n = a + (((64000000 * n - 1) / X + 1 : Nat) : Int) := by
  unfold PcS.when_
  rw [if_pos ⟨by omega, by omega⟩, Int.toNat_natCast, if_neg (by show ¬ 64000000 * n ≤ 0; omega), if_neg (by rw [pw_cap]; intro e; rcases e with e | e; omega; have : X = 0 := e; omega)]
  show min ((M.addT a.toNat ((64000000 * n - 0 - 1) / X + 1) : Nat) : Int) _ = _
  rw [Nat.sub_zero]
  have hq : (64000000 * n - 1) / X ≤ 64000000 * n - 1 := Nat.div_le_self _ _
  rw [M.addT_at _ _ (by omega)]
  omega
theorem pw_has (S X n : Nat) (a : Int) (D : Nat) (hn : n ≤ 65535) (ha : 0 ≤ a) (ha2 : a + (D : Int) ≤ 4611686018427387904) (hX : X * D < 18446744073709551616) : ((pw S X a).fill (a + (D : Int))).has n = decide (64000000 * n ≤ min (X * D) (64000000 * S)) := by
  rw [PcS.has_in _ n hn]
  have e1 : (pw S X a).at_ (a + (D : Int)) = a + (D : Int) := by unfold PcS.at_; show max a _ = _; omega
  unfold PcS.fill
  rw [e1]
  show decide (64000000 * n ≤ min (M.addT 0 (M.mulT X (a + (D : Int) - a).toNat)) (pw S X a).cap) = _
  rw [show (a + (D : Int) - a).toNat = D by omega, M.mulT_at _ _ hX, M.addT_at _ _ (by omega), Nat.zero_add, pw_cap]
/-- What lies behind that time, and ahead of it. -/
theorem pw_kept (X N : Nat) (hX : 1 ≤ X) (hN : 1 ≤ N) (hX2 : X ≤ 100000000) (hN2 : N ≤ 100000000000) : N ≤ X * ((N - 1) / X + 1) ∧ X * ((N - 1) / X) < N ∧ X * ((N - 1) / X + 1) < 18446744073709551616 := by
  have h := Nat.div_add_mod (N - 1) X
  have h2 := Nat.mod_lt (N - 1) hX
  rw [Nat.mul_add, Nat.mul_one]
  omega
set_option maxHeartbeats 8000000 in
set_option maxRecDepth 100000 in
theorem paceWhen_walk (sz : Int) (s1 : -9223372036854775808 ≤ sz) (s2 : sz ≤ 9223372036854775807) (nz : Int) (n1 : -9223372036854775808 ≤ nz) (n2 : nz ≤ 9223372036854775807) (x : Nat) (hx : x < 18446744073709551616) (az : Int) (w : World)
    (hbg : Calls Tryz.prog 15 #[] w fun e w' => e = .returned (.bool true) ∧ Below w.heap.size w w') :
    Calls Tryz.prog 5 #[.int .i64 sz, .int .i64 nz, .int .u64 x, .int .i64 az] w fun e w' => e = .returned (.bool true) ∧ Below w.heap.size w w' := by
  have HBG := Lib.hid hbg
  clear hbg
  obtain ⟨u0, e0, e01, e02, S0, e03, e04⟩ := mod_at sz 1400 (by decide)
  obtain ⟨v0, f0, f01, f02, n, f03, f04⟩ := mod_at nz 1500 (by decide)
  obtain ⟨S, hS⟩ : ∃ S : Nat, 1 + (S0 : Int) = (S : Int) := ⟨1 + S0, by omega⟩
  have hS1 : 1 ≤ S := by omega
  have hS2 : S ≤ 1400 := by omega
  obtain ⟨X, hX⟩ : ∃ X, x % 100000000 = X := ⟨_, rfl⟩
  have hXb : X < 100000000 := by omega
  have x1 : (x : Int) % 100000000 = (X : Int) := by omega
  have x2 : (x : Int).tmod 100000000 = (X : Int) := by rw [Int.tmod_eq_emod_of_nonneg (by omega)]; exact x1
  obtain ⟨T0, hT0⟩ : ∃ T0, min az 1099511627776 = T0 := ⟨_, rfl⟩
  obtain ⟨a, ha⟩ : ∃ a, max 0 T0 = a := ⟨_, rfl⟩
  obtain ⟨t1, t2, _, t4, _⟩ := mni _ _ T0 hT0
  obtain ⟨t5, t6, t7, _, t8⟩ := mxi _ _ a ha
  have ha2 : a ≤ 1099511627776 := by omega
  obtain ⟨B, hB⟩ : ∃ B, w.heap.size = B := ⟨_, rfl⟩
  have HNEW : Hid (∀ W, Calls Tryz.prog 16 #[.int .i64 S, .int .i64 0] W fun e w' => ∃ C, e = .returned (.pointer (some ⟨C, 0, none⟩)) ∧ PcAt ⟨64000000 * S, 0, 0, 0, 0⟩ C w' ∧ W.heap.size ≤ C ∧ Below W.heap.size W w') := Lib.hid (fun W => paceNew_any S 0 hS1 hS2 (by decide) W)
  have HRT : Hid (∀ W C, PcAt ⟨64000000 * S, 0, 0, 0, 0⟩ C W → Calls Tryz.prog 17 #[.pointer (some ⟨C, 0, none⟩), .int .i64 a, .int .u64 X] W fun e w' => e = .returned (.tuple #[]) ∧ PcAt (pw S X a) C w' ∧ Kept [C] W w') := Lib.hid (fun W C hW => by
    have h9 := paceRate_any ⟨64000000 * S, 0, 0, 0, 0⟩ (PcS.Ok.new S 0 hS2 (by decide)) a X (by omega) C W hW
    rw [PcS.first S 0 a X (by omega) (by omega)] at h9
    exact h9)
  have HWH := Lib.hid (fun W C (hW : PcAt (pw S X a) C W) => paceWhen_any (pw S X a) (pw_ok S X a hS2 (by omega) (by omega) (by omega)) n C W hW)
  have HMY := Lib.hid (fun (t : Int) W C (hW : PcAt (pw S X a) C W) => paceMay_any (pw S X a) (pw_ok S X a hS2 (by omega) (by omega) (by omega)) t n C W hW)
  have HTK : Hid (∀ W C, PcAt (pw S X a) C W → Calls Tryz.prog 21 #[.pointer (some ⟨C, 0, none⟩), .int .i64 a, .int .i64 0] W fun e w' => e = .returned (.bool true) ∧ Kept [C] W w') := Lib.hid (fun W C hW => by
    have h9 := paceTake_any (pw S X a) (pw_ok S X a hS2 (by omega) (by omega) (by omega)) a 0 C W hW
    have e : ((pw S X a).fill a).has 0 = true := by
      have h8 := PcS.has_in ((pw S X a).fill a) 0 (by decide)
      rw [show (((0 : Nat) : Int)) = 0 from rfl] at h8
      rw [h8]
      simp
    rw [e] at h9
    exact h9.mono fun e w' ⟨q1, q2, q3⟩ => ⟨q1, q3⟩)
  have HBe := Lib.hid hB
  go_enter Tryz.func5, Tryz.ntmps5
  go_upto_region 8 with (first
    | (go_at_call 15; (with_reducible refine HBG.out.mono ?_); rintro e w0 ⟨rfl, hb0⟩)
    | (go_at_call 16; (with_reducible refine (HNEW.out _).mono ?_); rintro e w1 ⟨C, rfl, h1, h2, h3⟩)
    | (go_at_call 17; (with_reducible refine (HRT.out _ _ h1).mono ?_); rintro e w2 ⟨rfl, h4, h5⟩)
    | (go_at_call 22; (with_reducible refine (HWH.out _ _ h4).mono ?_); rintro e w3 ⟨rfl, k3, rfl⟩))
  have HB2 : Hid (Below B w (w2.drewN k3)) := Lib.hid (by
    have s0 := hb0.size
    rw [← hB]
    exact (bel_trans hb0 h3).trans ((h5.drewN k3).below (by have := h3.size; omega) (by intro q hq; simp at hq; omega)))
  have H4 : Hid (PcAt (pw S X a) C (w2.drewN k3)) := Lib.hid (BlkIs.drewN h4 k3)
  have HC : Hid (B ≤ C ∧ C < (w2.drewN k3).heap.size) := Lib.hid ⟨by have := hb0.size; omega, H4.out.lt⟩
  generalize w2.drewN k3 = W3 at *
  clear hb0 h1 h2 h3 h4 h5 hB e0 e03 f0 f03 t1 t2 t4 t5 t6 t8 hT0 ha x1 x2 hX HWH HBG
  have hnb : n ≤ 1500 := by omega
  by_cases h1 : S < n
  · rw [pw_never S X n a (by omega) (by omega) (.inl h1)]
    have d0 : decide ((S : Int) < (n : Int)) = true := decide_eq_true (by omega)
    clear HMY HTK HRT HNEW
    go_wp2
    go_ret
    exact ⟨rfl, by rw [HBe.out]; exact HB2.out⟩
  · have d0 : decide ((S : Int) < (n : Int)) = false := decide_eq_false (by omega)
    by_cases h2 : n = 0
    · subst h2
      rw [show (((0 : Nat) : Int)) = 0 from rfl, pw_zero]
      have HT2 := Lib.hid (HTK.out _ _ H4.out)
      clear HMY HTK HRT HNEW h1
      by_cases h3 : X = 0
      all_goals
        (first | subst h3 | skip)
        go_wp2_with (go_at_call 21; (with_reducible refine HT2.out.mono ?_); rintro e w5 ⟨rfl, k5⟩)
        go_ret
        exact ⟨rfl, by rw [HBe.out]; exact HB2.out.trans (k5.below (by have := HC.out; omega) (by intro q hq; have := HC.out; simp at hq; omega))⟩
    · have g0 : decide ((0 : Int) < (n : Int)) = true := decide_eq_true (by omega)
      by_cases h3 : X = 0
      · rw [pw_never S X n a (by omega) (by omega) (.inr h3)]
        subst h3
        clear HMY HTK HRT HNEW
        go_wp2
        go_ret
        exact ⟨rfl, by rw [HBe.out]; exact HB2.out⟩
      · have hX1 : 1 ≤ X := by omega
        obtain ⟨b1, b2, b3⟩ := pw_kept X (64000000 * n) hX1 (by omega) (by omega) (by omega)
        have hqb : (64000000 * n - 1) / X ≤ 64000000 * n - 1 := Nat.div_le_self _ _
        have HV := pw_some S X n a (by omega) (by omega) hS2 hX1 (by omega) ha2
        have p1 := pw_has S X n a ((64000000 * n - 1) / X + 1) (by omega) (by omega) (by omega) b3
        have p2 := pw_has S X n a ((64000000 * n - 1) / X) (by omega) (by omega) (by omega) (by omega)
        rw [decide_eq_true (by omega)] at p1
        rw [decide_eq_false (by omega)] at p2
        obtain ⟨Q, hQ⟩ : ∃ Q, (64000000 * n - 1) / X = Q := ⟨_, rfl⟩
        rw [hQ] at p1 p2 HV hqb
        obtain ⟨V, hVV⟩ : ∃ V, a + ((Q + 1 : Nat) : Int) = V := ⟨_, rfl⟩
        rw [hVV] at HV p1
        rw [HV]
        have hV1 : V = a + (Q : Int) + 1 := by omega
        have hVb : V ≤ 2199023255552 := by omega
        have M1 : Hid (∀ W, PcAt (pw S X a) C W → Calls Tryz.prog 19 #[.pointer (some ⟨C, 0, none⟩), .int .i64 V, .int .i64 n] W fun e w' => e = .returned (.bool true) ∧ PcAt ((pw S X a).fill V) C w' ∧ Kept [C] W w') := Lib.hid (fun W hW => by
          have h9 := HMY.out V W C hW
          rw [p1] at h9
          exact h9)
        have M2 : Hid (∀ W C2, PcAt (pw S X a) C2 W → Calls Tryz.prog 19 #[.pointer (some ⟨C2, 0, none⟩), .int .i64 (V - 1), .int .i64 n] W fun e w' => e = .returned (.bool false) ∧ PcAt ((pw S X a).fill (V - 1)) C2 w' ∧ Kept [C2] W w') := Lib.hid (fun W C2 hW => by
          have h9 := HMY.out (V - 1) W C2 hW
          rw [show V - 1 = a + (Q : Int) by omega, p2] at h9
          rw [show V - 1 = a + (Q : Int) by omega]
          exact h9)
        have d1 : decide (a < V) = true := decide_eq_true (by omega)
        have d2 : decide (V < 4611686018427387904) = true := decide_eq_true (by omega)
        have hVp : 0 ≤ V := by omega
        have i1 : IntKind.i64.wrap (V - 1) = V - 1 := by rw [IntKind.wrap_i64]; omega
        clear HMY HTK hQ b1 b2 b3 hqb HV p1 p2 hV1 hVV
        go_upto_region 14 with (first
          | (go_at_call 16; (with_reducible refine (HNEW.out _).mono ?_); rintro e w5 ⟨C2, rfl, j1, j2, j3⟩)
          | (go_at_call 17; (with_reducible refine (HRT.out _ _ j1).mono ?_); rintro e w6 ⟨rfl, j4, j5⟩))
        have hne : C < C2 := by have := HC.out.2; omega
        have k6 : Kept [C2] W3 w6 := (Kept.of_below [C2] j3).trans' j5
        have hp6 : PcAt (pw S X a) C w6 := BlkIs.kept H4.out k6 (by simp; omega)
        have M1' := Lib.hid (M1.out w6 hp6)
        have J4 := Lib.hid j4
        have K6 := Lib.hid k6
        have HC2 : Hid (B ≤ C2 ∧ C2 < w6.heap.size) := Lib.hid ⟨by have := HC.out; omega, j4.lt⟩
        clear j1 j2 j3 j4 j5 k6 hp6 M1 HNEW HRT
        go_wp2_with (go_at_call 19; (first
          | ((with_reducible refine M1'.out.mono ?_); rintro e w7 ⟨rfl, l1, l2⟩; have hq7 : PcAt (pw S X a) C2 w7 := BlkIs.kept J4.out l2 (by simp; omega))
          | ((with_reducible refine (M2.out _ _ hq7).mono ?_); rintro e w8 ⟨rfl, l3, l4⟩)))
        go_ret
        refine ⟨rfl, ?_⟩
        rw [HBe.out]
        have b6 := HB2.out.trans (K6.out.below (by have := HC.out; omega) (by intro q hq; have := HC2.out; simp at hq; omega))
        have b7 := b6.trans (l2.below (by have := HC.out; have := HC2.out; omega) (by intro q hq; have := HC.out; simp at hq; omega))
        exact b7.trans (l4.below (by have := HC2.out; have := l2.size; omega) (by intro q hq; have := HC2.out; simp at hq; omega))
end Go.Proofs.YtfmnpepgmedfpaaGreatDoor
