/-
  The document's reading of a code. (Its text is printed by tools/gencodes.py.)
-/
import Derived.Test.YtjbcjcfmjagbkaaGreatDoorCodeT
namespace Go.Proofs.YtjbcjcfmjagbkaaGreatDoor
open Go.ChangeShapes Go.WideShapes Go.ChangeAt Go.RowKit
set_option linter.unusedVariables false
set_option linter.unusedSimpArgs false

theorem index_s (l : List UInt8) (s : ByteArray) (hs : str l = s) (i : Nat) (hi : i < l.length) (I : Int) (hI : I = (i : Int)) (W : World) :
    (Instr.index 9 (.string s) (.int .i64 I)).run Tryz.prog W = .ok (.int .u8 (((l.getD i 0).toNat : Nat) : Int)) W := index_at l s hs i hi I hI W
theorem digit_cases (B : Nat) : (48 ≤ B ∧ B ≤ 57 ∧ M.digitR B = some (B - 48)) ∨ (97 ≤ B ∧ B ≤ 102 ∧ M.digitR B = some (B - 87)) ∨ (65 ≤ B ∧ B ≤ 70 ∧ M.digitR B = some (B - 55)) ∨ (¬ (48 ≤ B ∧ B ≤ 57) ∧ ¬ (97 ≤ B ∧ B ≤ 102) ∧ ¬ (65 ≤ B ∧ B ≤ 70) ∧ M.digitR B = none) := by
  unfold M.digitR
  by_cases h1 : 48 ≤ B ∧ B ≤ 57
  · rw [if_pos h1]; exact .inl ⟨h1.1, h1.2, rfl⟩
  · by_cases h2 : 97 ≤ B ∧ B ≤ 102
    · rw [if_neg h1, if_pos h2]; exact .inr (.inl ⟨h2.1, h2.2, rfl⟩)
    · by_cases h3 : 65 ≤ B ∧ B ≤ 70
      · rw [if_neg h1, if_neg h2, if_pos h3]; exact .inr (.inr (.inl ⟨h3.1, h3.2, rfl⟩))
      · rw [if_neg h1, if_neg h2, if_neg h3]; exact .inr (.inr (.inr ⟨h1, h2, h3, rfl⟩))

set_option maxHeartbeats 4000000 in
set_option maxRecDepth 100000 in
theorem refService_short (l : List UInt8) (h : l.length < 4) (w : World) :
    Calls Tryz.prog 30 #[.string (str l)] w fun e w' => e = .returned (codeRes (M.serv l)) ∧ w = w' := by
  have HN := Lib.hid (M.serv_short l h)
  have hz : ((str l).size : Int) < 4 := by rw [str_size]; omega
  generalize str l = s at *
  obtain ⟨Z, hZ⟩ : ∃ Z : Int, (s.size : Int) = Z := ⟨_, rfl⟩
  have d1 : decide (Z < 4) = true := decide_eq_true (by omega)
  clear h hz
  go_enter Tryz.func30, Tryz.ntmps30
  go_wp2
  go_ret2
  exact ⟨ret_nocode HN.out, rfl⟩
set_option maxHeartbeats 4000000 in
set_option maxRecDepth 100000 in
theorem refService_a (a b c : UInt8) (t : List UInt8) (ht : t ≠ []) (hl : t.length ≤ 1000) (ha : a ≠ 83) (w : World) :
    Calls Tryz.prog 30 #[.string (str (a :: b :: c :: t))] w fun e w' => e = .returned (codeRes (M.serv (a :: b :: c :: t))) ∧ w = w' := by
  have HS := Lib.hid (M.serv_four a b c t)
  have ht1 : 1 ≤ t.length := List.length_pos_iff.2 ht
  obtain ⟨s, hs⟩ : ∃ s, str (a :: b :: c :: t) = s := ⟨_, rfl⟩
  have hlen : (a :: b :: c :: t).length = t.length + 3 := rfl
  have hz : (s.size : Int) = (t.length : Int) + 3 := by rw [← hs, str_size, hlen]; omega
  have hi0 := fun W => index_s _ s hs 0 (by omega) 0 rfl W
  have hi1 := fun W => index_s _ s hs 1 (by omega) 1 rfl W
  have hi2 := fun W => index_s _ s hs 2 (by omega) 2 rfl W
  rw [show (a :: b :: c :: t).getD 0 0 = a from rfl] at hi0
  rw [show (a :: b :: c :: t).getD 1 0 = b from rfl] at hi1
  rw [show (a :: b :: c :: t).getD 2 0 = c from rfl] at hi2
  have hsl : ∀ W, (Instr.slice 9 (.string s) (some (.int .i64 3)) none none).run Tryz.prog W = .ok (.string (str t)) W := fun W => by
    have e := slice_from (a :: b :: c :: t) 3 (by omega) W
    rw [hs] at e
    exact e
  obtain ⟨Z, hZ⟩ : ∃ Z : Int, (s.size : Int) = Z := ⟨_, rfl⟩
  rw [hZ] at hz
  have dz : decide (Z < 4) = false := decide_eq_false (by omega)
  have hs1 : 1 < s.size := by omega
  have hs2 : 2 < s.size := by omega
  have hs0 : 0 < s.size := by omega
  have hs3 : 3 ≤ s.size := by omega
  rw [hs]
  have HN : Hid (M.serv (a :: b :: c :: t) = none) := Lib.hid (by rw [HS.out, if_neg (fun h => ha h.1)])
  have d1 : ((a.toNat : Int) != 83) = true := by rw [bne_iff_ne]; exact fun e => ha (UInt8.toNat_inj.1 (by show a.toNat = 83; omega))
  clear ha hsl hi2
  clear hs hlen ht hz ht1 hl
  go_enter Tryz.func30, Tryz.ntmps30
  go_wp2
  go_ret2
  exact ⟨ret_nocode (HN.out), rfl⟩

set_option maxHeartbeats 4000000 in
set_option maxRecDepth 100000 in
theorem refService_b (a b c : UInt8) (t : List UInt8) (ht : t ≠ []) (hl : t.length ≤ 1000) (ha : a = 83) (hb : b ≠ 67) (w : World) :
    Calls Tryz.prog 30 #[.string (str (a :: b :: c :: t))] w fun e w' => e = .returned (codeRes (M.serv (a :: b :: c :: t))) ∧ w = w' := by
  have HS := Lib.hid (M.serv_four a b c t)
  have ht1 : 1 ≤ t.length := List.length_pos_iff.2 ht
  obtain ⟨s, hs⟩ : ∃ s, str (a :: b :: c :: t) = s := ⟨_, rfl⟩
  have hlen : (a :: b :: c :: t).length = t.length + 3 := rfl
  have hz : (s.size : Int) = (t.length : Int) + 3 := by rw [← hs, str_size, hlen]; omega
  have hi0 := fun W => index_s _ s hs 0 (by omega) 0 rfl W
  have hi1 := fun W => index_s _ s hs 1 (by omega) 1 rfl W
  have hi2 := fun W => index_s _ s hs 2 (by omega) 2 rfl W
  rw [show (a :: b :: c :: t).getD 0 0 = a from rfl] at hi0
  rw [show (a :: b :: c :: t).getD 1 0 = b from rfl] at hi1
  rw [show (a :: b :: c :: t).getD 2 0 = c from rfl] at hi2
  have hsl : ∀ W, (Instr.slice 9 (.string s) (some (.int .i64 3)) none none).run Tryz.prog W = .ok (.string (str t)) W := fun W => by
    have e := slice_from (a :: b :: c :: t) 3 (by omega) W
    rw [hs] at e
    exact e
  obtain ⟨Z, hZ⟩ : ∃ Z : Int, (s.size : Int) = Z := ⟨_, rfl⟩
  rw [hZ] at hz
  have dz : decide (Z < 4) = false := decide_eq_false (by omega)
  have hs1 : 1 < s.size := by omega
  have hs2 : 2 < s.size := by omega
  have hs0 : 0 < s.size := by omega
  have hs3 : 3 ≤ s.size := by omega
  rw [hs]
  have HN : Hid (M.serv (a :: b :: c :: t) = none) := Lib.hid (by rw [HS.out, if_neg (fun h => hb h.2)])
  have d1 : ((a.toNat : Int) != 83) = false := by rw [bne_eq_false_iff_eq, ha]; rfl
  have d2 : ((b.toNat : Int) != 67) = true := by rw [bne_iff_ne]; exact fun e => hb (UInt8.toNat_inj.1 (by show b.toNat = 67; omega))
  clear ha hb hsl hi2
  clear hs hlen ht hz ht1 hl
  go_enter Tryz.func30, Tryz.ntmps30
  go_wp2
  go_ret2
  exact ⟨ret_nocode (HN.out), rfl⟩

set_option maxHeartbeats 4000000 in
set_option maxRecDepth 100000 in
theorem refService_c (a b c : UInt8) (t : List UInt8) (ht : t ≠ []) (hl : t.length ≤ 1000) (ha : a = 83) (hb : b = 67) (h1 : c ≠ 58) (h2 : c ≠ 61) (w : World) :
    Calls Tryz.prog 30 #[.string (str (a :: b :: c :: t))] w fun e w' => e = .returned (codeRes (M.serv (a :: b :: c :: t))) ∧ w = w' := by
  have HS := Lib.hid (M.serv_four a b c t)
  have ht1 : 1 ≤ t.length := List.length_pos_iff.2 ht
  obtain ⟨s, hs⟩ : ∃ s, str (a :: b :: c :: t) = s := ⟨_, rfl⟩
  have hlen : (a :: b :: c :: t).length = t.length + 3 := rfl
  have hz : (s.size : Int) = (t.length : Int) + 3 := by rw [← hs, str_size, hlen]; omega
  have hi0 := fun W => index_s _ s hs 0 (by omega) 0 rfl W
  have hi1 := fun W => index_s _ s hs 1 (by omega) 1 rfl W
  have hi2 := fun W => index_s _ s hs 2 (by omega) 2 rfl W
  rw [show (a :: b :: c :: t).getD 0 0 = a from rfl] at hi0
  rw [show (a :: b :: c :: t).getD 1 0 = b from rfl] at hi1
  rw [show (a :: b :: c :: t).getD 2 0 = c from rfl] at hi2
  have hsl : ∀ W, (Instr.slice 9 (.string s) (some (.int .i64 3)) none none).run Tryz.prog W = .ok (.string (str t)) W := fun W => by
    have e := slice_from (a :: b :: c :: t) 3 (by omega) W
    rw [hs] at e
    exact e
  obtain ⟨Z, hZ⟩ : ∃ Z : Int, (s.size : Int) = Z := ⟨_, rfl⟩
  rw [hZ] at hz
  have dz : decide (Z < 4) = false := decide_eq_false (by omega)
  have hs1 : 1 < s.size := by omega
  have hs2 : 2 < s.size := by omega
  have hs0 : 0 < s.size := by omega
  have hs3 : 3 ≤ s.size := by omega
  rw [hs]
  have HN : Hid (M.serv (a :: b :: c :: t) = none) := Lib.hid (by rw [HS.out, if_pos ⟨ha, hb⟩, if_neg h1, if_neg h2])
  have d1 : ((a.toNat : Int) != 83) = false := by rw [bne_eq_false_iff_eq, ha]; rfl
  have d2 : ((b.toNat : Int) != 67) = false := by rw [bne_eq_false_iff_eq, hb]; rfl
  have d3 : ((c.toNat : Int) == 58) = false := by rw [beq_eq_false_iff_ne]; exact fun e => h1 (UInt8.toNat_inj.1 (by show c.toNat = 58; omega))
  have d4 : ((c.toNat : Int) != 61) = true := by rw [bne_iff_ne]; exact fun e => h2 (UInt8.toNat_inj.1 (by show c.toNat = 61; omega))
  clear ha hb h1 h2
  generalize str t = u at *
  clear hs hlen ht hz ht1 hl
  go_enter Tryz.func30, Tryz.ntmps30
  go_wp2
  go_ret2
  exact ⟨ret_nocode (HN.out), rfl⟩

set_option maxHeartbeats 4000000 in
set_option maxRecDepth 100000 in
theorem refService_sgn (a b c : UInt8) (t : List UInt8) (ht : t ≠ []) (hl : t.length ≤ 1000) (ha : a = 83) (hb : b = 67) (hc : c = 58) (w : World) :
    Calls Tryz.prog 30 #[.string (str (a :: b :: c :: t))] w fun e w' => e = .returned (codeRes (M.serv (a :: b :: c :: t))) ∧ w = w' := by
  have HS := Lib.hid (M.serv_four a b c t)
  have ht1 : 1 ≤ t.length := List.length_pos_iff.2 ht
  obtain ⟨s, hs⟩ : ∃ s, str (a :: b :: c :: t) = s := ⟨_, rfl⟩
  have hlen : (a :: b :: c :: t).length = t.length + 3 := rfl
  have hz : (s.size : Int) = (t.length : Int) + 3 := by rw [← hs, str_size, hlen]; omega
  have hi0 := fun W => index_s _ s hs 0 (by omega) 0 rfl W
  have hi1 := fun W => index_s _ s hs 1 (by omega) 1 rfl W
  have hi2 := fun W => index_s _ s hs 2 (by omega) 2 rfl W
  rw [show (a :: b :: c :: t).getD 0 0 = a from rfl] at hi0
  rw [show (a :: b :: c :: t).getD 1 0 = b from rfl] at hi1
  rw [show (a :: b :: c :: t).getD 2 0 = c from rfl] at hi2
  have hsl : ∀ W, (Instr.slice 9 (.string s) (some (.int .i64 3)) none none).run Tryz.prog W = .ok (.string (str t)) W := fun W => by
    have e := slice_from (a :: b :: c :: t) 3 (by omega) W
    rw [hs] at e
    exact e
  obtain ⟨Z, hZ⟩ : ∃ Z : Int, (s.size : Int) = Z := ⟨_, rfl⟩
  rw [hZ] at hz
  have dz : decide (Z < 4) = false := decide_eq_false (by omega)
  have hs1 : 1 < s.size := by omega
  have hs2 : 2 < s.size := by omega
  have hs0 : 0 < s.size := by omega
  have hs3 : 3 ≤ s.size := by omega
  rw [hs]
  have HO : Hid (M.serv (a :: b :: c :: t) = M.ofSgn t) := Lib.hid (by rw [HS.out, if_pos ⟨ha, hb⟩, if_pos hc])
  have d1 : ((a.toNat : Int) != 83) = false := by rw [bne_eq_false_iff_eq, ha]; rfl
  have d2 : ((b.toNat : Int) != 67) = false := by rw [bne_eq_false_iff_eq, hb]; rfl
  have d3 : ((c.toNat : Int) == 58) = true := by rw [beq_iff_eq, hc]; rfl
  obtain ⟨u, hu⟩ : ∃ u, str t = u := ⟨_, rfl⟩
  rw [hu] at hsl
  obtain ⟨N, hN⟩ : ∃ N : Nat, t.length = N := ⟨_, rfl⟩
  have hus : (u.size : Int) = (N : Int) := by rw [← hu, str_size, hN]
  have huz : u.size = N := by rw [← hu, str_size, hN]
  have HUZ := Lib.hid huz
  have HIX := Lib.hid (fun i (hi : i < N) W => index_s t u hu i (by omega) (i : Int) rfl W)
  by_cases h4 : 4 < N
  · have HN2 : Hid (M.ofSgn t = none) := Lib.hid (M.ofSgn_long t (by omega))
    have d5 : decide ((4 : Int) < (N : Int)) = true := decide_eq_true (by omega)
    have d6 : decide (4 < N) = true := decide_eq_true h4
    clear hs hlen ht hz ht1 hl ha hb hc hu hN h4 huz
    go_enter Tryz.func30, Tryz.ntmps30
    go_wp2
    go_ret2
    exact ⟨ret_nocode (by rw [HO.out, HN2.out]), rfl⟩
  · have d5 : decide ((4 : Int) < (N : Int)) = false := decide_eq_false (by omega)
    have d6 : decide (4 < N) = false := decide_eq_false h4
    have HNL := Lib.hid hN; have HTN := Lib.hid ht
    clear hs hlen ht hz ht1 hl ha hb hc hu hN huz
    go_enter Tryz.func30, Tryz.ntmps30
    go_wp2
    go_loop [5, 7] (fun n i => ∃ j : Nat, j ≤ 4 ∧ i = .int .i64 (j : Int) ∧ n = .int .u64 ((M.bigN t j : Nat) : Int) ∧ Hid (∀ q, q < j → q < N → M.isSgn (t.getD q 0).toNat = true)) (fun _ i => 4 - (intOf i).toNat)
    case atStart => exact ⟨0, by omega, rfl, rfl, Lib.hid (fun q hq => absurd hq (Nat.not_lt_zero q))⟩
    case round =>
      obtain ⟨j, hj, rfl, rfl, hall⟩ := hrel
      by_cases hj4 : j < 4
      · have hbl := M.bigN_lt t j
        have hpw : 256 ^ j ≤ 256 ^ 3 := Nat.pow_le_pow_right (by omega) (by omega)
        have h16 : M.bigN t j < 16777216 := by have : (256 : Nat) ^ 3 = 16777216 := by decide
                                               omega
        have HST : Hid (M.bigN t (j + 1) = M.bigN t j * 256 + M.padB t j) := Lib.hid rfl
        clear hbl hpw
        by_cases hjN : j < N
        · have hp : Hid (M.padB t j = (t.getD j 0).toNat) := Lib.hid (by unfold M.padB; rw [if_pos (by have := HNL.out; omega)])
          have hix := HIX.out j hjN
          have hB := (t.getD j 0).toNat_lt
          have HSG := Lib.hid (fun w => refSign_any (t.getD j 0).toNat hB w)
          have HALL : Hid (M.isSgn (t.getD j 0).toNat = true → ∀ q, q < j + 1 → q < N → M.isSgn (t.getD q 0).toNat = true) := Lib.hid (fun hx q hq hqN => by
            by_cases e : q = j
            · subst e; exact hx
            · exact hall.out q (by omega) hqN)
          have HNO : Hid (M.isSgn (t.getD j 0).toNat = false → M.ofSgn t = none) := Lib.hid (fun hx => M.ofSgn_no t j (by have := HNL.out; omega) hx)
          generalize (t.getD j 0).toNat = B at *
          generalize M.bigN t j = n at *
          cases hsg : M.isSgn B with
          | true =>
            rw [hsg] at HSG
            have HA := Lib.hid (HALL.out hsg)
            clear hsg HNO HALL hall
            go_wp2_with (go_at_call 79; (with_reducible refine (HSG.out _).mono ?_); rintro e w1 ⟨rfl, rfl⟩)
            go_round
            case rel => exact ⟨j + 1, by omega, by go_num, by rw [HST.out, hp.out]; go_num, HA⟩
            case measure => simp [intOf]; omega
          | false =>
            rw [hsg] at HSG
            have HN2 := Lib.hid (HNO.out hsg)
            clear hsg HNO HALL hall
            go_wp2_with (go_at_call 79; (with_reducible refine (HSG.out _).mono ?_); rintro e w1 ⟨rfl, rfl⟩)
            go_ret2
            exact ⟨ret_nocode (by rw [HO.out, HN2.out]), rfl⟩
        · have hp : Hid (M.padB t j = 32) := Lib.hid (by unfold M.padB; rw [if_neg (by have := HNL.out; omega)])
          have HA : Hid (∀ q, q < j + 1 → q < N → M.isSgn (t.getD q 0).toNat = true) := Lib.hid (fun q hq hqN => hall.out q (by omega) hqN)
          generalize M.bigN t j = n at *
          clear hall
          go_wp2
          go_round
          case rel => exact ⟨j + 1, by omega, by go_num, by rw [HST.out, hp.out]; go_num, HA⟩
          case measure => simp [intOf]; omega
      · obtain rfl : j = 4 := by omega
        have HV : Hid (M.ofSgn t = some (M.bigN t 4)) := Lib.hid (M.ofSgn_doc t HTN.out (by have := HNL.out; omega) (fun q h1 h2 => hall.out q h1 (by have := HNL.out; omega)))
        have hbl : M.bigN t 4 < 4294967296 := M.bigN_lt t 4
        generalize M.bigN t 4 = n at *
        clear hall
        go_wp2
        go_ret2
        exact ⟨ret_code (by rw [HO.out, HV.out]) (by first | rfl | omega), rfl⟩

set_option maxHeartbeats 4000000 in
set_option maxRecDepth 100000 in
theorem refService_hex (a b c : UInt8) (t : List UInt8) (ht : t ≠ []) (hl : t.length ≤ 1000) (ha : a = 83) (hb : b = 67) (hc : c = 61) (d : UInt8) (r : List UInt8) (htr : t = d :: r) (hd : d.toNat = 120 ∨ d.toNat = 88) (w : World) :
    Calls Tryz.prog 30 #[.string (str (a :: b :: c :: t))] w fun e w' => e = .returned (codeRes (M.serv (a :: b :: c :: t))) ∧ w = w' := by
  have HS := Lib.hid (M.serv_four a b c t)
  have ht1 : 1 ≤ t.length := List.length_pos_iff.2 ht
  obtain ⟨s, hs⟩ : ∃ s, str (a :: b :: c :: t) = s := ⟨_, rfl⟩
  have hlen : (a :: b :: c :: t).length = t.length + 3 := rfl
  have hz : (s.size : Int) = (t.length : Int) + 3 := by rw [← hs, str_size, hlen]; omega
  have hi0 := fun W => index_s _ s hs 0 (by omega) 0 rfl W
  have hi1 := fun W => index_s _ s hs 1 (by omega) 1 rfl W
  have hi2 := fun W => index_s _ s hs 2 (by omega) 2 rfl W
  rw [show (a :: b :: c :: t).getD 0 0 = a from rfl] at hi0
  rw [show (a :: b :: c :: t).getD 1 0 = b from rfl] at hi1
  rw [show (a :: b :: c :: t).getD 2 0 = c from rfl] at hi2
  have hsl : ∀ W, (Instr.slice 9 (.string s) (some (.int .i64 3)) none none).run Tryz.prog W = .ok (.string (str t)) W := fun W => by
    have e := slice_from (a :: b :: c :: t) 3 (by omega) W
    rw [hs] at e
    exact e
  obtain ⟨Z, hZ⟩ : ∃ Z : Int, (s.size : Int) = Z := ⟨_, rfl⟩
  rw [hZ] at hz
  have dz : decide (Z < 4) = false := decide_eq_false (by omega)
  have hs1 : 1 < s.size := by omega
  have hs2 : 2 < s.size := by omega
  have hs0 : 0 < s.size := by omega
  have hs3 : 3 ≤ s.size := by omega
  rw [hs]
  have HO : Hid (M.serv (a :: b :: c :: t) = M.ofDig 16 8 r) := Lib.hid (by rw [HS.out, if_pos ⟨ha, hb⟩, if_neg (by rw [hc]; decide), if_pos hc, htr, M.numC_cons, if_pos hd])
  have d1 : ((a.toNat : Int) != 83) = false := by rw [bne_eq_false_iff_eq, ha]; rfl
  have d2 : ((b.toNat : Int) != 67) = false := by rw [bne_eq_false_iff_eq, hb]; rfl
  have d3 : ((c.toNat : Int) == 58) = false := by rw [beq_eq_false_iff_ne, hc]; decide
  have d4 : ((c.toNat : Int) != 61) = false := by rw [bne_eq_false_iff_eq, hc]; rfl
  obtain ⟨u, hu⟩ : ∃ u, str t = u := ⟨_, rfl⟩
  obtain ⟨v, hv⟩ : ∃ v, str r = v := ⟨_, rfl⟩
  obtain ⟨N, hN⟩ : ∃ N : Nat, r.length = N := ⟨_, rfl⟩
  have htl : t.length = N + 1 := by rw [htr, List.length_cons, hN]
  rw [hu] at hsl
  have hus : (u.size : Int) = (N : Int) + 1 := by rw [← hu, str_size, htl]; omega
  have hu0 : 0 < u.size := by omega
  have hu1 : 1 ≤ u.size := by omega
  have hvs : (v.size : Int) = (N : Int) := by rw [← hv, str_size, hN]
  have hj0 := fun W => index_s t u hu 0 (by omega) 0 rfl W
  rw [show t.getD 0 0 = d by rw [htr]; rfl] at hj0
  have hsl2 : ∀ W, (Instr.slice 9 (.string u) (some (.int .i64 1)) none none).run Tryz.prog W = .ok (.string v) W := fun W => by
    have e := slice_from t 1 (by omega) W
    rw [hu, show t.drop 1 = r by rw [htr]; rfl, hv] at e
    exact e
  have HIX := Lib.hid (fun i (hi : i < N) W => index_s r v hv i (by omega) (i : Int) rfl W)
  have hor : ((d.toNat : Int) == 120) = true ∨ (((d.toNat : Int) == 120) = false ∧ ((d.toNat : Int) == 88) = true) := by
    rcases hd with h | h
    · left; rw [beq_iff_eq]; omega
    · right; exact ⟨by rw [beq_eq_false_iff_ne]; omega, by rw [beq_iff_eq]; omega⟩
  have HNL := Lib.hid hN
  have hN1000 : N ≤ 1000 := by omega
  by_cases hbad : N < 1 ∨ 8 < N
  · have HN2 : Hid (M.ofDig 16 8 r = none) := Lib.hid (by
      rw [M.ofDig_bytes, if_pos]
      rcases hbad with h | h
      · left; exact List.eq_nil_of_length_eq_zero (by omega)
      · right; omega)
    have hbad2 : decide ((N : Int) < 1) = true ∨ (decide ((N : Int) < 1) = false ∧ decide ((8 : Int) < (N : Int)) = true) := by
      rcases hbad with h | h
      · left; exact decide_eq_true (by omega)
      · right; exact ⟨decide_eq_false (by omega), decide_eq_true (by omega)⟩
    clear hs hlen ht hz ht1 hl ha hb hc hu hv hN htl htr hd hbad HIX
    generalize d.toNat = D at *
    rcases hor with o1 | ⟨o1, o2⟩ <;> rcases hbad2 with q1 | ⟨q1, q2⟩
    all_goals
      go_enter Tryz.func30, Tryz.ntmps30
      go_wp2
      go_ret2
      exact ⟨ret_nocode (by rw [HO.out, HN2.out]), rfl⟩
  · have q1 : decide ((N : Int) < 1) = false := decide_eq_false (by omega)
    have q2 : decide ((8 : Int) < (N : Int)) = false := decide_eq_false (by omega)
    have hN8 : N ≤ 8 := by omega
    have HOD : Hid (M.ofDig 16 8 r = match M.numB 16 0 r with | none => none | some n => if 4294967295 ≤ n then none else some n) := Lib.hid ((M.ofDig_bytes 16 8 r).trans (if_neg (by
      rintro (h | h)
      · rw [h] at hN; simp at hN; omega
      · omega)))
    clear hs hlen ht hz ht1 hl ha hb hc hu hv hN htl htr hd hbad
    generalize d.toNat = D at *
    rcases hor with o1 | ⟨o1, o2⟩
    all_goals
      go_enter Tryz.func30, Tryz.ntmps30
      go_wp2
      go_loop [5, 9] (fun n i => ∃ j m : Nat, j ≤ N ∧ i = .int .i64 (j : Int) ∧ n = .int .u64 (m : Int) ∧ Hid (M.numB 16 m (r.drop j) = M.numB 16 0 r) ∧ Hid (m < 16 ^ j)) (fun _ i => N - (intOf i).toNat)
      case atStart => exact ⟨0, 0, Nat.zero_le _, rfl, rfl, Lib.hid (by simp), Lib.hid (by simp)⟩
      case round =>
        obtain ⟨j, m, hj, rfl, rfl, hnum, hlt⟩ := hrel
        have hm : m ≤ 10000000000 := by
          have h1 := hlt.out
          have h2 : 16 ^ j ≤ 16 ^ 8 := Nat.pow_le_pow_right (by omega) (by omega)
          have h3 : (16 : Nat) ^ 8 ≤ 10000000000 := by decide
          omega
        by_cases hjN : j < N
        · have hix := HIX.out j hjN
          have hB := (r.getD j 0).toNat_lt
          have hst := M.numB_step 16 m r j (by have := HNL.out; omega)
          rw [hnum.out] at hst
          have dj : decide ((j : Int) < (N : Int)) = true := decide_eq_true (by omega)
          have HJ1 : Hid (j + 1 ≤ N) := Lib.hid hjN
          have HLT := Lib.hid hlt.out
          generalize (r.getD j 0).toNat = B at *
          clear hnum hlt
          rcases digit_cases B with ⟨k1, k2, kd⟩ | ⟨k1, k2, kd⟩ | ⟨k1, k2, kd⟩ | ⟨k1, k2, k3, kd⟩
          · obtain ⟨d, rfl⟩ : ∃ d, B = d + 48 := ⟨B - 48, by omega⟩
            rw [kd, show d + 48 - 48 = d by omega] at hst
            have hst2 : M.numB 16 0 r = if 16 ≤ d then none else M.numB 16 (m * 16 + d) (r.drop (j + 1)) := hst
            clear hst kd
            obtain ⟨E, hE⟩ : ∃ E : Int, ((d + 48 : Nat) : Int) = E := ⟨_, rfl⟩
            rw [hE] at hix
            have hE0 : E = (d : Int) + 48 := by omega
            have HE := Lib.hid hE0
            have e1 : decide ((48 : Int) ≤ E) = true := decide_eq_true (by omega)
            have e2 : decide (E ≤ 57) = true := decide_eq_true (by omega)
            have hw1 : IntKind.u8.wrap (E - 48) = E - 48 := by rw [IntKind.wrap_u8]; omega
            have hw2 : IntKind.u64.wrap (E - 48) = E - 48 := by rw [IntKind.wrap_u64]; omega
            have g1 : decide ((16 : Int) ≤ E - 48) = false := decide_eq_false (by omega)
            rw [if_neg (by omega)] at hst2
            have HST := Lib.hid hst2.symm
            have HGR : Hid (m * 16 + d < 16 ^ (j + 1)) := Lib.hid (pow_grow HLT.out (by omega) (Nat.le_refl 1))
            have hb1 : 0 ≤ E - 48 ∧ E - 48 ≤ 15 := by omega
            have hw4 : IntKind.u64.wrap ((m : Int) * 16) = (m : Int) * 16 := by rw [IntKind.wrap_u64]; omega
            have hw5 : IntKind.u64.wrap ((m : Int) * 16 + (E - 48)) = (m : Int) * 16 + (E - 48) := by rw [IntKind.wrap_u64]; omega
            clear hst2 hE hE0
            go_wp2
            go_round
            case rel => exact ⟨j + 1, m * 16 + d, HJ1.out, by go_num, by have := HE.out; first | (congr 1; omega) | (subst this; go_num), HST, HGR⟩
            case measure => simp [intOf]; omega
          · obtain ⟨d, rfl⟩ : ∃ d, B = d + 87 := ⟨B - 87, by omega⟩
            rw [kd, show d + 87 - 87 = d by omega] at hst
            have hst2 : M.numB 16 0 r = if 16 ≤ d then none else M.numB 16 (m * 16 + d) (r.drop (j + 1)) := hst
            clear hst kd
            obtain ⟨E, hE⟩ : ∃ E : Int, ((d + 87 : Nat) : Int) = E := ⟨_, rfl⟩
            rw [hE] at hix
            have hE0 : E = (d : Int) + 87 := by omega
            have HE := Lib.hid hE0
            have e1 : decide ((48 : Int) ≤ E) = true := decide_eq_true (by omega)
            have e2 : decide (E ≤ 57) = false := decide_eq_false (by omega)
            have e3 : decide ((97 : Int) ≤ E) = true := decide_eq_true (by omega)
            have e4 : decide (E ≤ 102) = true := decide_eq_true (by omega)
            have hw1 : IntKind.u8.wrap (E - 97) = E - 97 := by rw [IntKind.wrap_u8]; omega
            have hw2 : IntKind.u64.wrap (E - 97) = E - 97 := by rw [IntKind.wrap_u64]; omega
            have hw3 : IntKind.u64.wrap (E - 97 + 10) = E - 97 + 10 := by rw [IntKind.wrap_u64]; omega
            have g1 : decide ((16 : Int) ≤ E - 97 + 10) = false := decide_eq_false (by omega)
            rw [if_neg (by omega)] at hst2
            have HST := Lib.hid hst2.symm
            have HGR : Hid (m * 16 + d < 16 ^ (j + 1)) := Lib.hid (pow_grow HLT.out (by omega) (Nat.le_refl 1))
            have hb1 : 0 ≤ E - 97 + 10 ∧ E - 97 + 10 ≤ 15 := by omega
            have hw4 : IntKind.u64.wrap ((m : Int) * 16) = (m : Int) * 16 := by rw [IntKind.wrap_u64]; omega
            have hw5 : IntKind.u64.wrap ((m : Int) * 16 + (E - 97 + 10)) = (m : Int) * 16 + (E - 97 + 10) := by rw [IntKind.wrap_u64]; omega
            clear hst2 hE hE0
            go_wp2
            go_round
            case rel => exact ⟨j + 1, m * 16 + d, HJ1.out, by go_num, by have := HE.out; first | (congr 1; omega) | (subst this; go_num), HST, HGR⟩
            case measure => simp [intOf]; omega
          · obtain ⟨d, rfl⟩ : ∃ d, B = d + 55 := ⟨B - 55, by omega⟩
            rw [kd, show d + 55 - 55 = d by omega] at hst
            have hst2 : M.numB 16 0 r = if 16 ≤ d then none else M.numB 16 (m * 16 + d) (r.drop (j + 1)) := hst
            clear hst kd
            obtain ⟨E, hE⟩ : ∃ E : Int, ((d + 55 : Nat) : Int) = E := ⟨_, rfl⟩
            rw [hE] at hix
            have hE0 : E = (d : Int) + 55 := by omega
            have HE := Lib.hid hE0
            have e1 : decide ((48 : Int) ≤ E) = true := decide_eq_true (by omega)
            have e2 : decide (E ≤ 57) = false := decide_eq_false (by omega)
            have e3 : decide ((97 : Int) ≤ E) = false := decide_eq_false (by omega)
            have e5 : decide ((65 : Int) ≤ E) = true := decide_eq_true (by omega)
            have e6 : decide (E ≤ 70) = true := decide_eq_true (by omega)
            have hw1 : IntKind.u8.wrap (E - 65) = E - 65 := by rw [IntKind.wrap_u8]; omega
            have hw2 : IntKind.u64.wrap (E - 65) = E - 65 := by rw [IntKind.wrap_u64]; omega
            have hw3 : IntKind.u64.wrap (E - 65 + 10) = E - 65 + 10 := by rw [IntKind.wrap_u64]; omega
            have g1 : decide ((16 : Int) ≤ E - 65 + 10) = false := decide_eq_false (by omega)
            rw [if_neg (by omega)] at hst2
            have HST := Lib.hid hst2.symm
            have HGR : Hid (m * 16 + d < 16 ^ (j + 1)) := Lib.hid (pow_grow HLT.out (by omega) (Nat.le_refl 1))
            have hb1 : 0 ≤ E - 65 + 10 ∧ E - 65 + 10 ≤ 15 := by omega
            have hw4 : IntKind.u64.wrap ((m : Int) * 16) = (m : Int) * 16 := by rw [IntKind.wrap_u64]; omega
            have hw5 : IntKind.u64.wrap ((m : Int) * 16 + (E - 65 + 10)) = (m : Int) * 16 + (E - 65 + 10) := by rw [IntKind.wrap_u64]; omega
            clear hst2 hE hE0
            go_wp2
            go_round
            case rel => exact ⟨j + 1, m * 16 + d, HJ1.out, by go_num, by have := HE.out; first | (congr 1; omega) | (subst this; go_num), HST, HGR⟩
            case measure => simp [intOf]; omega
          · rw [kd] at hst
            have HN2 : Hid (M.numB 16 0 r = none) := Lib.hid hst
            have g1 : decide ((16 : Int) ≤ 99) = true := by decide
            clear hst kd
            by_cases q0 : B < 48
            · have e1 : decide ((48 : Int) ≤ (B : Int)) = false := decide_eq_false (by omega)
              have e3 : decide ((97 : Int) ≤ (B : Int)) = false := decide_eq_false (by omega)
              have e5 : decide ((65 : Int) ≤ (B : Int)) = false := decide_eq_false (by omega)
              go_wp2
              go_ret2
              exact ⟨ret_nocode (by rw [HO.out, HOD.out, HN2.out]), rfl⟩
            have e1 : decide ((48 : Int) ≤ (B : Int)) = true := decide_eq_true (by omega)
            have e2 : decide ((B : Int) ≤ 57) = false := decide_eq_false (by omega)
            by_cases q1 : B < 65
            · have e3 : decide ((97 : Int) ≤ (B : Int)) = false := decide_eq_false (by omega)
              have e5 : decide ((65 : Int) ≤ (B : Int)) = false := decide_eq_false (by omega)
              go_wp2
              go_ret2
              exact ⟨ret_nocode (by rw [HO.out, HOD.out, HN2.out]), rfl⟩
            have e5 : decide ((65 : Int) ≤ (B : Int)) = true := decide_eq_true (by omega)
            have e6 : decide ((B : Int) ≤ 70) = false := decide_eq_false (by omega)
            by_cases q2 : B < 97
            · have e3 : decide ((97 : Int) ≤ (B : Int)) = false := decide_eq_false (by omega)
              go_wp2
              go_ret2
              exact ⟨ret_nocode (by rw [HO.out, HOD.out, HN2.out]), rfl⟩
            have e3 : decide ((97 : Int) ≤ (B : Int)) = true := decide_eq_true (by omega)
            have e4 : decide ((B : Int) ≤ 102) = false := decide_eq_false (by omega)
            go_wp2
            go_ret2
            exact ⟨ret_nocode (by rw [HO.out, HOD.out, HN2.out]), rfl⟩
        · obtain rfl : j = N := by omega
          have dj : decide ((j : Int) < (j : Int)) = false := decide_eq_false (by omega)
          have hn2 := hnum.out
          rw [List.drop_eq_nil_of_le (by have := HNL.out; omega)] at hn2
          have HN2 : Hid (M.numB 16 0 r = some m) := Lib.hid hn2.symm
          clear hnum hn2 hlt
          by_cases h42 : 4294967295 ≤ m
          · have g2 : decide ((4294967295 : Int) ≤ (m : Int)) = true := decide_eq_true (by omega)
            go_wp2
            go_ret2
            exact ⟨ret_nocode (by rw [HO.out, HOD.out, HN2.out]; exact if_pos h42), rfl⟩
          · have g2 : decide ((4294967295 : Int) ≤ (m : Int)) = false := decide_eq_false (by omega)
            go_wp2
            go_ret2
            exact ⟨ret_code (m := m) (by rw [HO.out, HOD.out, HN2.out]; exact if_neg h42) (by first | rfl | omega), rfl⟩

set_option maxHeartbeats 4000000 in
set_option maxRecDepth 100000 in
theorem refService_dec (a b c : UInt8) (t : List UInt8) (ht : t ≠ []) (hl : t.length ≤ 1000) (ha : a = 83) (hb : b = 67) (hc : c = 61) (d : UInt8) (r : List UInt8) (htr : t = d :: r) (hd : ¬ (d.toNat = 120 ∨ d.toNat = 88)) (w : World) :
    Calls Tryz.prog 30 #[.string (str (a :: b :: c :: t))] w fun e w' => e = .returned (codeRes (M.serv (a :: b :: c :: t))) ∧ w = w' := by
  have HS := Lib.hid (M.serv_four a b c t)
  have ht1 : 1 ≤ t.length := List.length_pos_iff.2 ht
  obtain ⟨s, hs⟩ : ∃ s, str (a :: b :: c :: t) = s := ⟨_, rfl⟩
  have hlen : (a :: b :: c :: t).length = t.length + 3 := rfl
  have hz : (s.size : Int) = (t.length : Int) + 3 := by rw [← hs, str_size, hlen]; omega
  have hi0 := fun W => index_s _ s hs 0 (by omega) 0 rfl W
  have hi1 := fun W => index_s _ s hs 1 (by omega) 1 rfl W
  have hi2 := fun W => index_s _ s hs 2 (by omega) 2 rfl W
  rw [show (a :: b :: c :: t).getD 0 0 = a from rfl] at hi0
  rw [show (a :: b :: c :: t).getD 1 0 = b from rfl] at hi1
  rw [show (a :: b :: c :: t).getD 2 0 = c from rfl] at hi2
  have hsl : ∀ W, (Instr.slice 9 (.string s) (some (.int .i64 3)) none none).run Tryz.prog W = .ok (.string (str t)) W := fun W => by
    have e := slice_from (a :: b :: c :: t) 3 (by omega) W
    rw [hs] at e
    exact e
  obtain ⟨Z, hZ⟩ : ∃ Z : Int, (s.size : Int) = Z := ⟨_, rfl⟩
  rw [hZ] at hz
  have dz : decide (Z < 4) = false := decide_eq_false (by omega)
  have hs1 : 1 < s.size := by omega
  have hs2 : 2 < s.size := by omega
  have hs0 : 0 < s.size := by omega
  have hs3 : 3 ≤ s.size := by omega
  rw [hs]
  have HO0 : Hid (M.serv (a :: b :: c :: t) = if d.toNat = 48 ∧ r ≠ [] then none else M.ofDig 10 10 t) := Lib.hid (by rw [HS.out, if_pos ⟨ha, hb⟩, if_neg (by rw [hc]; decide), if_pos hc, htr, M.numC_cons, if_neg hd])
  have d1 : ((a.toNat : Int) != 83) = false := by rw [bne_eq_false_iff_eq, ha]; rfl
  have d2 : ((b.toNat : Int) != 67) = false := by rw [bne_eq_false_iff_eq, hb]; rfl
  have d3 : ((c.toNat : Int) == 58) = false := by rw [beq_eq_false_iff_ne, hc]; decide
  have d4 : ((c.toNat : Int) != 61) = false := by rw [bne_eq_false_iff_eq, hc]; rfl
  obtain ⟨u, hu⟩ : ∃ u, str t = u := ⟨_, rfl⟩
  obtain ⟨N, hN⟩ : ∃ N : Nat, t.length = N := ⟨_, rfl⟩
  have hrl : r.length + 1 = N := by rw [← hN, htr, List.length_cons]
  rw [hu] at hsl
  have hus : (u.size : Int) = (N : Int) := by rw [← hu, str_size, hN]
  have hu0 : 0 < u.size := by omega
  have hj0 := fun W => index_s t u hu 0 (by omega) 0 rfl W
  rw [show t.getD 0 0 = d by rw [htr]; rfl] at hj0
  have HIX := Lib.hid (fun i (hi : i < N) W => index_s t u hu i (by omega) (i : Int) rfl W)
  have o1 : ((d.toNat : Int) == 120) = false := by rw [beq_eq_false_iff_ne]; omega
  have o2 : ((d.toNat : Int) == 88) = false := by rw [beq_eq_false_iff_ne]; omega
  have HNL := Lib.hid hN
  have hN1000 : N ≤ 1000 := by omega
  by_cases hbad : 10 < N ∨ (d.toNat = 48 ∧ 1 < N)
  · have HN2 : Hid (M.serv (a :: b :: c :: t) = none) := Lib.hid (by
      rw [HO0.out]
      by_cases h48 : d.toNat = 48 ∧ r ≠ []
      · rw [if_pos h48]
      · rw [if_neg h48, M.ofDig_bytes, if_pos]
        rcases hbad with h | ⟨h, h2⟩
        · right; omega
        · exact absurd ⟨h, fun e => by rw [e] at hrl; simp at hrl; omega⟩ h48)
    have hbad2 : decide ((10 : Int) < (N : Int)) = true ∨ (decide ((10 : Int) < (N : Int)) = false ∧ ((d.toNat : Int) == 48) = true ∧ decide ((1 : Int) < (N : Int)) = true) := by
      by_cases h10 : 10 < N
      · left; exact decide_eq_true (by omega)
      · right
        rcases hbad with h | ⟨h, h2⟩
        · omega
        · exact ⟨decide_eq_false (by omega), by rw [beq_iff_eq]; omega, decide_eq_true (by omega)⟩
    clear hs hlen ht hz ht1 hl ha hb hc hu hN hrl htr hd hbad HIX HO0
    generalize d.toNat = D at *
    rcases hbad2 with q1 | ⟨q1, q2, q3⟩
    all_goals
      go_enter Tryz.func30, Tryz.ntmps30
      go_wp2
      go_ret2
      exact ⟨ret_nocode HN2.out, rfl⟩
  · have q1 : decide ((10 : Int) < (N : Int)) = false := decide_eq_false (by omega)
    have hN10 : N ≤ 10 := by omega
    have HO : Hid (M.serv (a :: b :: c :: t) = M.ofDig 10 10 t) := Lib.hid (by
      rw [HO0.out, if_neg]
      rintro ⟨h1, h2⟩
      have := List.length_pos_iff.2 h2
      omega)
    have HOD : Hid (M.ofDig 10 10 t = match M.numB 10 0 t with | none => none | some n => if 4294967295 ≤ n then none else some n) := Lib.hid ((M.ofDig_bytes 10 10 t).trans (if_neg (by
      rintro (h | h)
      · exact ht h
      · omega)))
    have hor : ((d.toNat : Int) == 48) = false ∨ (((d.toNat : Int) == 48) = true ∧ decide ((1 : Int) < (N : Int)) = false) := by
      by_cases h48 : d.toNat = 48
      · right; exact ⟨by rw [beq_iff_eq]; omega, decide_eq_false (by omega)⟩
      · left; rw [beq_eq_false_iff_ne]; omega
    clear hs hlen ht hz ht1 hl ha hb hc hu hN hrl htr hd hbad HO0
    generalize d.toNat = D at *
    rcases hor with o3 | ⟨o3, o4⟩
    all_goals
      go_enter Tryz.func30, Tryz.ntmps30
      go_wp2
      go_loop [5, 9] (fun n i => ∃ j m : Nat, j ≤ N ∧ i = .int .i64 (j : Int) ∧ n = .int .u64 (m : Int) ∧ Hid (M.numB 10 m (t.drop j) = M.numB 10 0 t) ∧ Hid (m < 10 ^ j)) (fun _ i => N - (intOf i).toNat)
      case atStart => exact ⟨0, 0, Nat.zero_le _, rfl, rfl, Lib.hid (by simp), Lib.hid (by simp)⟩
      case round =>
        obtain ⟨j, m, hj, rfl, rfl, hnum, hlt⟩ := hrel
        have hm : m ≤ 10000000000 := by
          have h1 := hlt.out
          have h2 : 10 ^ j ≤ 10 ^ 10 := Nat.pow_le_pow_right (by omega) (by omega)
          have h3 : (10 : Nat) ^ 10 ≤ 10000000000 := by decide
          omega
        by_cases hjN : j < N
        · have hix := HIX.out j hjN
          have hB := (t.getD j 0).toNat_lt
          have hst := M.numB_step 10 m t j (by have := HNL.out; omega)
          rw [hnum.out] at hst
          have dj : decide ((j : Int) < (N : Int)) = true := decide_eq_true (by omega)
          have HJ1 : Hid (j + 1 ≤ N) := Lib.hid hjN
          have HLT := Lib.hid hlt.out
          generalize (t.getD j 0).toNat = B at *
          clear hnum hlt
          rcases digit_cases B with ⟨k1, k2, kd⟩ | ⟨k1, k2, kd⟩ | ⟨k1, k2, kd⟩ | ⟨k1, k2, k3, kd⟩
          · obtain ⟨d, rfl⟩ : ∃ d, B = d + 48 := ⟨B - 48, by omega⟩
            rw [kd, show d + 48 - 48 = d by omega] at hst
            have hst2 : M.numB 10 0 t = if 10 ≤ d then none else M.numB 10 (m * 10 + d) (t.drop (j + 1)) := hst
            clear hst kd
            obtain ⟨E, hE⟩ : ∃ E : Int, ((d + 48 : Nat) : Int) = E := ⟨_, rfl⟩
            rw [hE] at hix
            have hE0 : E = (d : Int) + 48 := by omega
            have HE := Lib.hid hE0
            have e1 : decide ((48 : Int) ≤ E) = true := decide_eq_true (by omega)
            have e2 : decide (E ≤ 57) = true := decide_eq_true (by omega)
            have hw1 : IntKind.u8.wrap (E - 48) = E - 48 := by rw [IntKind.wrap_u8]; omega
            have hw2 : IntKind.u64.wrap (E - 48) = E - 48 := by rw [IntKind.wrap_u64]; omega
            have g1 : decide ((10 : Int) ≤ E - 48) = false := decide_eq_false (by omega)
            rw [if_neg (by omega)] at hst2
            have HST := Lib.hid hst2.symm
            have HGR : Hid (m * 10 + d < 10 ^ (j + 1)) := Lib.hid (pow_grow HLT.out (by omega) (Nat.le_refl 1))
            have hb1 : 0 ≤ E - 48 ∧ E - 48 ≤ 15 := by omega
            have hw4 : IntKind.u64.wrap ((m : Int) * 10) = (m : Int) * 10 := by rw [IntKind.wrap_u64]; omega
            have hw5 : IntKind.u64.wrap ((m : Int) * 10 + (E - 48)) = (m : Int) * 10 + (E - 48) := by rw [IntKind.wrap_u64]; omega
            clear hst2 hE hE0
            go_wp2
            go_round
            case rel => exact ⟨j + 1, m * 10 + d, HJ1.out, by go_num, by have := HE.out; first | (congr 1; omega) | (subst this; go_num), HST, HGR⟩
            case measure => simp [intOf]; omega
          · obtain ⟨d, rfl⟩ : ∃ d, B = d + 87 := ⟨B - 87, by omega⟩
            rw [kd, show d + 87 - 87 = d by omega] at hst
            have hst2 : M.numB 10 0 t = if 10 ≤ d then none else M.numB 10 (m * 10 + d) (t.drop (j + 1)) := hst
            clear hst kd
            obtain ⟨E, hE⟩ : ∃ E : Int, ((d + 87 : Nat) : Int) = E := ⟨_, rfl⟩
            rw [hE] at hix
            have hE0 : E = (d : Int) + 87 := by omega
            have HE := Lib.hid hE0
            have e1 : decide ((48 : Int) ≤ E) = true := decide_eq_true (by omega)
            have e2 : decide (E ≤ 57) = false := decide_eq_false (by omega)
            have e3 : decide ((97 : Int) ≤ E) = true := decide_eq_true (by omega)
            have e4 : decide (E ≤ 102) = true := decide_eq_true (by omega)
            have hw1 : IntKind.u8.wrap (E - 97) = E - 97 := by rw [IntKind.wrap_u8]; omega
            have hw2 : IntKind.u64.wrap (E - 97) = E - 97 := by rw [IntKind.wrap_u64]; omega
            have hw3 : IntKind.u64.wrap (E - 97 + 10) = E - 97 + 10 := by rw [IntKind.wrap_u64]; omega
            have g1 : decide ((10 : Int) ≤ E - 97 + 10) = true := decide_eq_true (by omega)
            rw [if_pos (by omega)] at hst2
            have HN2 := Lib.hid hst2
            have hb1 : 0 ≤ E - 97 + 10 ∧ E - 97 + 10 ≤ 15 := by omega
            clear hst2 hE hE0
            go_wp2
            go_ret2
            exact ⟨ret_nocode (by rw [HO.out, HOD.out, HN2.out]), rfl⟩
          · obtain ⟨d, rfl⟩ : ∃ d, B = d + 55 := ⟨B - 55, by omega⟩
            rw [kd, show d + 55 - 55 = d by omega] at hst
            have hst2 : M.numB 10 0 t = if 10 ≤ d then none else M.numB 10 (m * 10 + d) (t.drop (j + 1)) := hst
            clear hst kd
            obtain ⟨E, hE⟩ : ∃ E : Int, ((d + 55 : Nat) : Int) = E := ⟨_, rfl⟩
            rw [hE] at hix
            have hE0 : E = (d : Int) + 55 := by omega
            have HE := Lib.hid hE0
            have e1 : decide ((48 : Int) ≤ E) = true := decide_eq_true (by omega)
            have e2 : decide (E ≤ 57) = false := decide_eq_false (by omega)
            have e3 : decide ((97 : Int) ≤ E) = false := decide_eq_false (by omega)
            have e5 : decide ((65 : Int) ≤ E) = true := decide_eq_true (by omega)
            have e6 : decide (E ≤ 70) = true := decide_eq_true (by omega)
            have hw1 : IntKind.u8.wrap (E - 65) = E - 65 := by rw [IntKind.wrap_u8]; omega
            have hw2 : IntKind.u64.wrap (E - 65) = E - 65 := by rw [IntKind.wrap_u64]; omega
            have hw3 : IntKind.u64.wrap (E - 65 + 10) = E - 65 + 10 := by rw [IntKind.wrap_u64]; omega
            have g1 : decide ((10 : Int) ≤ E - 65 + 10) = true := decide_eq_true (by omega)
            rw [if_pos (by omega)] at hst2
            have HN2 := Lib.hid hst2
            have hb1 : 0 ≤ E - 65 + 10 ∧ E - 65 + 10 ≤ 15 := by omega
            clear hst2 hE hE0
            go_wp2
            go_ret2
            exact ⟨ret_nocode (by rw [HO.out, HOD.out, HN2.out]), rfl⟩
          · rw [kd] at hst
            have HN2 : Hid (M.numB 10 0 t = none) := Lib.hid hst
            have g1 : decide ((10 : Int) ≤ 99) = true := by decide
            clear hst kd
            by_cases q0 : B < 48
            · have e1 : decide ((48 : Int) ≤ (B : Int)) = false := decide_eq_false (by omega)
              have e3 : decide ((97 : Int) ≤ (B : Int)) = false := decide_eq_false (by omega)
              have e5 : decide ((65 : Int) ≤ (B : Int)) = false := decide_eq_false (by omega)
              go_wp2
              go_ret2
              exact ⟨ret_nocode (by rw [HO.out, HOD.out, HN2.out]), rfl⟩
            have e1 : decide ((48 : Int) ≤ (B : Int)) = true := decide_eq_true (by omega)
            have e2 : decide ((B : Int) ≤ 57) = false := decide_eq_false (by omega)
            by_cases q1 : B < 65
            · have e3 : decide ((97 : Int) ≤ (B : Int)) = false := decide_eq_false (by omega)
              have e5 : decide ((65 : Int) ≤ (B : Int)) = false := decide_eq_false (by omega)
              go_wp2
              go_ret2
              exact ⟨ret_nocode (by rw [HO.out, HOD.out, HN2.out]), rfl⟩
            have e5 : decide ((65 : Int) ≤ (B : Int)) = true := decide_eq_true (by omega)
            have e6 : decide ((B : Int) ≤ 70) = false := decide_eq_false (by omega)
            by_cases q2 : B < 97
            · have e3 : decide ((97 : Int) ≤ (B : Int)) = false := decide_eq_false (by omega)
              go_wp2
              go_ret2
              exact ⟨ret_nocode (by rw [HO.out, HOD.out, HN2.out]), rfl⟩
            have e3 : decide ((97 : Int) ≤ (B : Int)) = true := decide_eq_true (by omega)
            have e4 : decide ((B : Int) ≤ 102) = false := decide_eq_false (by omega)
            go_wp2
            go_ret2
            exact ⟨ret_nocode (by rw [HO.out, HOD.out, HN2.out]), rfl⟩
        · obtain rfl : j = N := by omega
          have dj : decide ((j : Int) < (j : Int)) = false := decide_eq_false (by omega)
          have hn2 := hnum.out
          rw [List.drop_eq_nil_of_le (by have := HNL.out; omega)] at hn2
          have HN2 : Hid (M.numB 10 0 t = some m) := Lib.hid hn2.symm
          clear hnum hn2 hlt
          by_cases h42 : 4294967295 ≤ m
          · have g2 : decide ((4294967295 : Int) ≤ (m : Int)) = true := decide_eq_true (by omega)
            go_wp2
            go_ret2
            exact ⟨ret_nocode (by rw [HO.out, HOD.out, HN2.out]; exact if_pos h42), rfl⟩
          · have g2 : decide ((4294967295 : Int) ≤ (m : Int)) = false := decide_eq_false (by omega)
            go_wp2
            go_ret2
            exact ⟨ret_code (m := m) (by rw [HO.out, HOD.out, HN2.out]; exact if_neg h42) (by first | rfl | omega), rfl⟩

theorem refService_any (l : List UInt8) (hl : l.length ≤ 1000) (w : World) :
    Calls Tryz.prog 30 #[.string (str l)] w fun e w' => e = .returned (codeRes (M.serv l)) ∧ w = w' := by
  by_cases h4 : l.length < 4
  · exact refService_short l h4 w
  · match l, h4, hl with
    | a :: b :: c :: d :: r, _, hl =>
      have hl' : (d :: r).length ≤ 1000 := by simp at hl ⊢; omega
      by_cases ha : a = 83
      · by_cases hb : b = 67
        · by_cases h1 : c = 58
          · exact refService_sgn a b c _ (by simp) hl' ha hb h1 w
          · by_cases h2 : c = 61
            · by_cases hd : d.toNat = 120 ∨ d.toNat = 88
              · exact refService_hex a b c _ (by simp) hl' ha hb h2 d r rfl hd w
              · exact refService_dec a b c _ (by simp) hl' ha hb h2 d r rfl hd w
            · exact refService_c a b c _ (by simp) hl' ha hb h1 h2 w
        · exact refService_b a b c _ (by simp) hl' ha hb w
      · exact refService_a a b c _ (by simp) hl' ha w
    | [a, b, c], h4, _ => exact absurd (by simp) h4
    | [a, b], h4, _ => exact absurd (by simp) h4
    | [a], h4, _ => exact absurd (by simp) h4
    | [], h4, _ => exact absurd (by simp) h4
end Go.Proofs.YtjbcjcfmjagbkaaGreatDoor
