/-
  The law NegoMust, walked (its opening handed in).
-/
import Derived.Test.YtfmnpepgmedfpaaGreatDoorNgZ
import Derived.Deep.RegionHeld3
namespace Go.Proofs.YtfmnpepgmedfpaaGreatDoor
open Go.ChangeShapes Go.WideShapes Go.ChangeAt Go.RowKit
set_option linter.unusedVariables false
set_option linter.unusedSimpArgs false

theorem nm_lists {l : List UInt8} (h : ftMay 1 l = true) : l = [2] ∨ l = [3] ∨ l = [2, 3] ∨ l = [3, 2] := by
  have h1 : FtGood 2 3 l ∧ l ≠ [] := by
    unfold ftMay at h
    rw [if_neg (by decide), show ftSpan 1 = some (2, 3) from rfl] at h
    unfold ftList at h
    simpa using h
  have hb : ∀ b ∈ l, b = 2 ∨ b = 3 := fun b hb => by
    have := h1.1.2 b hb
    have h4 : b.toNat = 2 ∨ b.toNat = 3 := by omega
    rcases h4 with h4 | h4
    · exact .inl (UInt8.toNat_inj.1 h4)
    · exact .inr (UInt8.toNat_inj.1 h4)
  have hn := h1.1.1
  match l, h1.2, hb, hn with
  | [], h, _, _ => exact absurd rfl h
  | [a], _, hb, _ =>
    rcases hb a (by simp) with rfl | rfl
    · exact .inl rfl
    · exact .inr (.inl rfl)
  | [a, b], _, hb, hn =>
    rcases hb a (by simp) with rfl | rfl <;> rcases hb b (by simp) with rfl | rfl
    · simp at hn
    · exact .inr (.inr (.inl rfl))
    · exact .inr (.inr (.inr rfl))
    · simp at hn
  | a :: b :: c :: r, _, hb, hn =>
    exfalso
    rcases hb a (by simp) with rfl | rfl <;> rcases hb b (by simp) with rfl | rfl <;> rcases hb c (by simp) with rfl | rfl <;> simp at hn
/-- What both come to, and what is due then. -/
def nmX (l : List UInt8) : UInt8 := if l = [2] ∨ l = [2, 3] ∨ l = [3, 2] then 2 else 3
def nmS (l : List UInt8) : NgS := { ngInit true with theirs := upd (ngInit true).theirs 1 [nmX l] }
theorem nm_pick (l : List UInt8) (h : l = [2] ∨ l = [3] ∨ l = [2, 3] ∨ l = [3, 2]) : (ngInit true).pick 1 l = some [nmX l] := by
  rcases h with rfl | rfl | rfl | rfl <;> decide +kernel
theorem nm_first (l : List UInt8) (h : l = [2] ∨ l = [3] ∨ l = [2, 3] ∨ l = [3, 2]) (t : Int) (h1 : 100 ≤ t) (h2 : t < 190) (d : List UInt8) :
    (ngInit true).take [] [⟨1, []⟩, ⟨32, 1 :: l⟩, ⟨t, d⟩, ⟨2, []⟩] = ⟨true, nmS l, [⟨35, 1 :: (nmX l) :: [2, 3]⟩]⟩ := by
  have hp := nm_pick l h
  have k1 : ngKind t = false := decide_eq_false (by omega)
  have e0 : (ngInit true).takeTo [] [⟨1, []⟩, ⟨32, 1 :: l⟩, ⟨t, d⟩, ⟨2, []⟩] 1 = ⟨true, ngInit true, []⟩ := rfl
  have e1 : (ngInit true).takeTo [] [⟨1, []⟩, ⟨32, 1 :: l⟩, ⟨t, d⟩, ⟨2, []⟩] 2 = ⟨true, nmS l, [⟨35, 1 :: (nmX l) :: [2, 3]⟩]⟩ := by
    rw [NgS.takeTo_step _ _ _ 1 (by rw [e0]), e0]
    show (ngInit true).take1 [] ⟨32, 1 :: l⟩ true = _
    unfold NgS.take1
    rw [if_pos (show ngKind 32 = true from rfl)]
    show (ngInit true).hear [] 32 1 l true = _
    have hs : (ngInit true).says (((1 : UInt8).toNat : Nat) : Int) l = nmX l :: [2, 3] := by
      unfold NgS.says
      rw [show ((((1 : UInt8).toNat : Nat) : Int)) = 1 from rfl, hp]
      show (if ftLst 1 = true then [nmX l] ++ ftAll 1 else [nmX l]) = _
      rw [if_pos (show ftLst 1 = true from rfl), ftAll_1]
      rfl
    have hst : (ngInit true).settled (((1 : UInt8).toNat : Nat) : Int) l = nmS l := by
      unfold NgS.settled
      rw [show ((((1 : UInt8).toNat : Nat) : Int)) = 1 from rfl, hp]
      rfl
    unfold NgS.hear
    rw [if_pos rfl, hs, hst, if_neg (by simp)]
    rfl
  have e2 : (ngInit true).takeTo [] [⟨1, []⟩, ⟨32, 1 :: l⟩, ⟨t, d⟩, ⟨2, []⟩] 3 = ⟨true, nmS l, [⟨35, 1 :: (nmX l) :: [2, 3]⟩]⟩ := by
    rw [NgS.takeTo_step _ _ _ 2 (by rw [e1]), e1]
    show (nmS l).take1 [⟨35, 1 :: (nmX l) :: [2, 3]⟩] ⟨t, d⟩ false = _
    unfold NgS.take1
    rw [if_neg (by rw [k1]; decide)]
    split <;> rfl
  show (ngInit true).takeTo [] [⟨1, []⟩, ⟨32, 1 :: l⟩, ⟨t, d⟩, ⟨2, []⟩] 4 = _
  rw [NgS.takeTo_step _ _ _ 3 (by rw [e2]), e2]
  have hm : decide (0 < 3 ∧ (([⟨1, []⟩, ⟨32, 1 :: l⟩, ⟨t, d⟩, ⟨2, []⟩] : List M.Opt).getD (3 - 1) ⟨0, []⟩).t = 1) = false := decide_eq_false (fun h => by
    have h2 : t = 1 := h.2
    omega)
  rw [hm]
  rfl
theorem nm_second (l : List UInt8) (t : Int) (h1 : 100 ≤ t) (h2 : t < 190) (d : List UInt8) :
    (nmS l).take [] [⟨1, []⟩, ⟨t, d⟩, ⟨32, [6, 1]⟩] = ⟨false, nmS l, []⟩ := by
  have k1 : ngKind t = false := decide_eq_false (by omega)
  have q1 : ngQuiet t = false := decide_eq_false (by omega)
  have e0 : (nmS l).takeTo [] [⟨1, []⟩, ⟨t, d⟩, ⟨32, [6, 1]⟩] 1 = ⟨true, nmS l, []⟩ := rfl
  have e1 : (nmS l).takeTo [] [⟨1, []⟩, ⟨t, d⟩, ⟨32, [6, 1]⟩] 2 = ⟨false, nmS l, []⟩ := by
    rw [NgS.takeTo_step _ _ _ 1 (by rw [e0]), e0]
    show (nmS l).take1 [] ⟨t, d⟩ true = _
    unfold NgS.take1
    rw [if_neg (by rw [k1]; decide), if_neg (by rw [q1]; decide)]
    rfl
  exact (NgS.takeTo_no _ _ _ 2 (by rw [e1]) 3 (by decide)).trans e1
set_option maxHeartbeats 8000000 in
set_option maxRecDepth 100000 in
theorem negoMust_walk (tz : Int) (t1 : -9223372036854775808 ≤ tz) (t2 : tz ≤ 9223372036854775807) (s1 s2 : ByteArray) (hs1 : s1.size ≤ maxLen) (hs2 : s2.size ≤ maxLen) (w : World)
    (hbg : Calls Tryz.prog 15 #[] w fun e w' => e = .returned (.bool true) ∧ Below w.heap.size w w') :
    Calls Tryz.prog 10 #[.int .i64 tz, .string s1, .string s2] w fun e w' => e = .returned (.bool true) ∧ Below w.heap.size w w' := by
  have HBG := Lib.hid hbg
  obtain ⟨ld, hld, ht2⟩ := text_cutN s2 9 (by decide) hs2
  have HT2 : Hid (∀ W, Calls Tryz.prog 27 #[.string s2, .int .i64 9] W fun e w' => e = .returned (.string (str ld)) ∧ W = w') := Lib.hid ht2
  obtain ⟨a, ha, a1, a2, J, hJ, hJ3⟩ := mod_atN tz 90 (by decide)
  obtain ⟨B, hB⟩ : ∃ B, w.heap.size = B := ⟨_, rfl⟩
  have q1 : IntKind.i64.wrap (a + 90) = a + 90 := by rw [IntKind.wrap_i64]; omega
  have q2 : wrap64 (a + 90) = a + 90 := by unfold wrap64; omega
  obtain ⟨T, hT⟩ : ∃ T : Int, 100 + (J : Int) = T := ⟨_, rfl⟩
  have hT1 : 100 ≤ T := by omega
  have hT2 : T < 190 := by omega
  have q3 : IntKind.i64.wrap T = T := by rw [IntKind.wrap_i64]; omega
  have q4 : wrap64 T = T := by unfold wrap64; omega
  -- the text that is asked for
  obtain ⟨l1, hl1, hs1l⟩ : ∃ l1 : List UInt8, s1 = str l1 ∧ l1.length ≤ 9223372036854775807 := ⟨s1.data.toList, str_eq s1, by show s1.size ≤ _; unfold maxLen at hs1; omega⟩
  subst hl1
  have HMY := Lib.hid (fun W => rfMay_any 1 l1 hs1l W)
  obtain ⟨m, hm⟩ : ∃ m, ftMay 1 l1 = m := ⟨_, rfl⟩
  obtain ⟨lv, hlv⟩ : ∃ lv, (if m = true then l1 else [2]) = lv := ⟨_, rfl⟩
  have hkind : lv = [2] ∨ lv = [3] ∨ lv = [2, 3] ∨ lv = [3, 2] := by
    rw [← hlv]
    by_cases h : m = true
    · rw [if_pos h]; exact nm_lists (hm.trans h)
    · rw [if_neg h]; exact .inl rfl
  rw [hm] at HMY
  have HNEW : Hid (∀ W, Below w.heap.size w W → Calls Tryz.prog 30 #[.bool true] W fun e w' => ∃ C, e = .returned (.pointer (some ⟨C, 0, none⟩)) ∧ NgL (ngInit true) [] C B w w' ∧ C = W.heap.size ∧ Below W.heap.size W w') := Lib.hid (fun W h => NgL.new true B w W (by rw [← hB]; exact h) (by omega))
  have hfi := nm_first lv hkind T hT1 hT2 ld
  have hse := nm_second lv T hT1 hT2 ld
  obtain ⟨X, hX⟩ : ∃ X, str (1 :: lv) = X := ⟨_, rfl⟩
  obtain ⟨D, hD⟩ : ∃ D, str ld = D := ⟨_, rfl⟩
  have hlv2 : lv.length ≤ 2 := by rcases hkind with rfl | rfl | rfl | rfl <;> decide
  have HTK1 : Hid (∀ C W, NgL (ngInit true) [] C B w W → Calls Tryz.prog 31 #[.pointer (some ⟨C, 0, none⟩), .slice (some ⟨W.heap.size, 0, none⟩) 4 4] (W.alloc (.cells #[.int .i64 1, .string ⟨#[]⟩, .int .i64 32, .string X, .int .i64 T, .string D, .int .i64 2, .string ⟨#[]⟩] 57)) fun e w' => e = .returned (.bool true) ∧ NgL (nmS lv) [⟨35, 1 :: (nmX lv) :: [2, 3]⟩] C B w w') := Lib.hid (fun C W h => by
    have h9 := h.list [⟨1, []⟩, ⟨32, 1 :: lv⟩, ⟨T, ld⟩, ⟨2, []⟩] (by intro o ho; simp at ho; rcases ho with rfl | rfl | rfl | rfl <;> simp <;> omega) (by simp)
    rw [hfi] at h9
    rw [← hX, ← hD]
    exact h9)
  have HTK2 : Hid (∀ C W, NgL (nmS lv) [] C B w W → Calls Tryz.prog 31 #[.pointer (some ⟨C, 0, none⟩), .slice (some ⟨W.heap.size, 0, none⟩) 3 3] (W.alloc (.cells #[.int .i64 1, .string ⟨#[]⟩, .int .i64 T, .string D, .int .i64 32, .string ⟨#[6, 1]⟩] 57)) fun e w' => e = .returned (.bool false) ∧ NgL (nmS lv) [] C B w w') := Lib.hid (fun C W h => by
    have h9 := h.list [⟨1, []⟩, ⟨T, ld⟩, ⟨32, [6, 1]⟩] (by intro o ho; simp at ho; rcases ho with rfl | rfl | rfl <;> simp <;> omega) (by simp)
    rw [hse] at h9
    rw [← hD]
    exact h9)
  have HTH1 : Hid (∀ os C W, NgL (nmS lv) os C B w W → Calls Tryz.prog 37 #[.pointer (some ⟨C, 0, none⟩), .int .i64 1] W fun e w' => e = .returned (.string (str [nmX lv])) ∧ ∃ n, w' = W.drewN n) := Lib.hid (fun os C W h => h.theirs 1)
  have HTH6 : Hid (∀ os C W, NgL (nmS lv) os C B w W → Calls Tryz.prog 37 #[.pointer (some ⟨C, 0, none⟩), .int .i64 6] W fun e w' => e = .returned (.string ⟨#[0]⟩) ∧ ∃ n, w' = W.drewN n) := Lib.hid (fun os C W h => h.theirs 6)
  have HOP1 : Hid (∀ C W, NgL (nmS lv) [⟨35, 1 :: (nmX lv) :: [2, 3]⟩] C B w W → Calls Tryz.prog 39 #[.pointer (some ⟨C, 0, none⟩)] W fun e w' => ∃ p cap, e = .returned (.slice p 1 cap) ∧ NgL (nmS lv) [] C B w w') := Lib.hid (fun C W h => (h.opts (by simp)).mono fun e w' ⟨p, cap, q1, q2, q3, q4⟩ => ⟨p, cap, q1, q3⟩)
  have HOP2 : Hid (∀ C W, NgL (nmS lv) [] C B w W → Calls Tryz.prog 39 #[.pointer (some ⟨C, 0, none⟩)] W fun e w' => ∃ p cap, e = .returned (.slice p 0 cap) ∧ NgL (nmS lv) [] C B w w') := Lib.hid (fun C W h => (h.opts (by simp)).mono fun e w' ⟨p, cap, q1, q2, q3, q4⟩ => ⟨p, cap, q1, q3⟩)
  have HBe := Lib.hid hB
  have hx1 : (⟨#[1]⟩ : ByteArray) ++ str lv = X := by rw [← hX]; rfl
  have HLV := Lib.hid hlv
  have HKD := Lib.hid hkind
  have hmt : m = false → lv = [2] := fun h => by rw [← hlv, h]; rfl
  have hmf : m = true → lv = l1 := fun h => by rw [← hlv, h]; rfl
  have hl8 : (str lv).size ≤ 2 := hlv2
  clear hbg ht2 hs2 hlv hkind hX hfi hse hm hJ3 hB
  cases m with
  | true =>
    obtain rfl := hmf rfl
    clear hmt hmf HLV
    rw [hD] at HT2
    go_enter Tryz.func10, Tryz.ntmps10
    go_upto_region 8 with (first
      | (go_at_call 15; (with_reducible refine HBG.out.mono ?_); rintro e w0 ⟨rfl, hb0⟩)
      | (go_at_call 30; (with_reducible refine (HNEW.out _ hb0).mono ?_); rintro e w3 ⟨C, rfl, h3, -, -⟩; have H3 := Lib.hid h3; clear h3)
      | (go_at_call 36; (with_reducible refine (HMY.out _).mono ?_); rintro e w4 ⟨rfl, n4, rfl⟩; have H4 := Lib.hid (H3.out.below (bel_drewN _ n4)))
)
    clear H3 HNEW HMY HBG q1 q2 ha hJ
    generalize w3.drewN n4 = w4 at *
    go_upto_region 9 with (first
      | (go_at_call 27; (with_reducible refine (HT2.out _).mono ?_); rintro e w5 ⟨rfl, rfl⟩)
      | (go_at_call 31; (with_reducible refine (HTK1.out _ _ H4.out).mono ?_); rintro e w6 ⟨rfl, h6⟩; have H6 := Lib.hid h6; clear h6))
    obtain ⟨n, a, b, hsz, hy0, hyn, hmn, hn2⟩ : ∃ (n : Nat) (a b : UInt8), (str lv).size = n + 1 ∧ (∀ h : 0 < (str lv).size, (str lv)[0]'h = a) ∧ (∀ h : n < (str lv).size, (str lv)[n]'h = b) ∧ min (a.toNat : Int) (b.toNat : Int) = ((nmX lv).toNat : Int) ∧ n ≤ 1 := by
      rcases HKD.out with rfl | rfl | rfl | rfl
      · exact ⟨0, 2, 2, rfl, fun _ => rfl, fun _ => rfl, by decide, by decide⟩
      · exact ⟨0, 3, 3, rfl, fun _ => rfl, fun _ => rfl, by decide, by decide⟩
      · exact ⟨1, 2, 3, rfl, fun _ => rfl, fun _ => rfl, by decide, by decide⟩
      · exact ⟨1, 3, 2, rfl, fun _ => rfl, fun _ => rfl, by decide, by decide⟩
    have hM3 : (nmX lv).toNat ≤ 3 := by unfold nmX; split <;> decide
    have HBY : Hid (∀ W, Calls Tryz.prog 38 #[.int .u64 ((nmX lv).toNat : Int), .int .i64 1] W fun e w' => e = .returned (.string (str [nmX lv])) ∧ Below W.heap.size W w') := Lib.hid (fun W => by
      have h9 := refBytes_any (nmX lv).toNat 1 (by omega) (by decide) W
      have e : beBytes 1 (nmX lv).toNat = [nmX lv] := by
        show [UInt8.ofNat ((nmX lv).toNat / 256 ^ 0 % 256)] = _
        rw [Nat.pow_zero, Nat.div_one, Nat.mod_eq_of_lt (by omega)]
        simp
      rw [e] at h9
      exact h9)
    have HTH := Lib.hid (HTH1.out [⟨35, 1 :: (nmX lv) :: [2, 3]⟩] C)
    obtain ⟨z, hz⟩ : ∃ z, str [nmX lv] = z := ⟨_, rfl⟩
    rw [hz] at HBY HTH
    obtain ⟨m0, hM⟩ : ∃ m0, (nmX lv).toNat = m0 := ⟨_, rfl⟩
    rw [hM] at HBY hmn hM3
    have hmn2 : (if (b.toNat : Int) < (a.toNat : Int) then (b.toNat : Int) else (a.toNat : Int)) = (m0 : Int) := by rw [← hmn]; split <;> omega
    have hmn3 : (if (a.toNat : Int) ≤ (b.toNat : Int) then (a.toNat : Int) else (b.toNat : Int)) = (m0 : Int) := by rw [← hmn]; split <;> omega
    have qa : IntKind.u64.wrap (m0 : Int) = (m0 : Int) := by rw [IntKind.wrap_u64]; omega
    obtain ⟨os, hos⟩ : ∃ os, ([⟨35, 1 :: (nmX lv) :: [2, 3]⟩] : List M.Opt) = os := ⟨_, rfl⟩
    rw [hos] at H6 HOP1 HTH
    have HZ := Lib.hid hz
    clear hz hM hos HTH1 HTK1
    have HKD2 := HKD
    clear HKD
    obtain ⟨S1, hS1⟩ : ∃ S1, nmS lv = S1 := ⟨_, rfl⟩
    rw [hS1] at H6 HOP1 HOP2 HTH HTH6 HTK2
    clear hS1 HKD2 HZ
    generalize str lv = y at *
    have hb1 : 0 < y.size := by omega
    have hb2 : n < y.size := by omega
    have hya := hy0 hb1
    have hyb := hyn hb2
    clear hy0 hyn hl8
    have wz0 : IntKind.i64.wrap 0 = 0 := rfl
    have wz1 : IntKind.i64.wrap 1 = 1 := rfl
    go_cut [50] (fun u wx => u = .bool false ∧ Hid (NgL S1 os C B w wx))
    case first =>
      rcases (show n = 0 ∨ n = 1 by omega) with rfl | rfl
      · have hsz : y.size = 1 := hsz
        have hab : b = a := hyb.symm.trans hya
        subst hab
        have hmn4 : (b.toNat : Int) = (m0 : Int) := by rw [← hmn]; omega
        have HD6 : Hid (NgL S1 os C B w w6.drew) := Lib.hid (H6.out.below (bel_drewN w6 1))
        go_region_held3 (fun W => NgL S1 os C B w W) (first | exact HD6.out | exact H6.out.below (bel_drewN _ _) | exact (H6.out.below (bel_drewN _ _)).below hb8) ((first
          | (go_at_call 37; (with_reducible refine (HTH.out _ HD6.out).mono ?_); rintro e w7 ⟨rfl, n7, rfl⟩)
          | (go_at_call 38; (with_reducible refine (HBY.out _).mono ?_); rintro e w8 ⟨rfl, hb8⟩)))
        all_goals (
          go_wp2_with fail
          go_meet
          exact ⟨rfl, Lib.hid (by assumption)⟩)
      · have hsz : y.size = 2 := hsz
        have HD6 : Hid (NgL S1 os C B w w6.drew) := Lib.hid (H6.out.below (bel_drewN w6 1))
        go_region_held3 (fun W => NgL S1 os C B w W) (first | exact HD6.out | exact H6.out.below (bel_drewN _ _) | exact (H6.out.below (bel_drewN _ _)).below hb8) ((first
          | (go_at_call 37; (with_reducible refine (HTH.out _ HD6.out).mono ?_); rintro e w7 ⟨rfl, n7, rfl⟩)
          | (go_at_call 38; (with_reducible refine (HBY.out _).mono ?_); rintro e w8 ⟨rfl, hb8⟩)))
        all_goals (
          go_wp2_with fail
          go_meet
          exact ⟨rfl, Lib.hid (by assumption)⟩)
    case rest =>
      obtain ⟨rfl, h7⟩ := hcut
      go_wp2_with (first
        | (go_at_call 39; (first
          | ((with_reducible refine (HOP2.out _ _ H9.out).mono ?_); rintro e w10 ⟨p10, cap10, rfl, h10⟩; have H10 := Lib.hid h10; clear h10)
          | ((with_reducible refine (HOP1.out _ _ h7.out).mono ?_); rintro e w8 ⟨p8, cap8, rfl, h8⟩; have H8 := Lib.hid h8; clear h8)))
        | (go_at_call 27; (with_reducible refine (HT2.out _).mono ?_); rintro e w5 ⟨rfl, rfl⟩)
        | (go_at_call 31; (with_reducible refine (HTK2.out _ _ H8.out).mono ?_); rintro e w9 ⟨rfl, h9⟩; have H9a := Lib.hid h9; clear h9)
        | (go_at_call 37; (with_reducible refine (HTH6.out _ _ _ H9a.out).mono ?_); rintro e w11 ⟨rfl, n11, rfl⟩; have H9 := Lib.hid (H9a.out.below (bel_drewN _ n11))))
      go_ret
      exact ⟨rfl, by rw [HBe.out]; exact H10.out.bel⟩
  | false =>
    have HE2 := Lib.hid (hmt rfl)
    clear hmt hmf HLV
    rw [hD] at HT2
    go_enter Tryz.func10, Tryz.ntmps10
    go_upto_region 8 with (first
      | (go_at_call 15; (with_reducible refine HBG.out.mono ?_); rintro e w0 ⟨rfl, hb0⟩)
      | (go_at_call 30; (with_reducible refine (HNEW.out _ hb0).mono ?_); rintro e w3 ⟨C, rfl, h3, -, -⟩; have H3 := Lib.hid h3; clear h3)
      | (go_at_call 36; (with_reducible refine (HMY.out _).mono ?_); rintro e w4 ⟨rfl, n4, rfl⟩; have H4 := Lib.hid (H3.out.below (bel_drewN _ n4)))
)
    clear H3 HNEW HMY HBG q1 q2 ha hJ
    rw [show (⟨#[2]⟩ : ByteArray) = str lv by rw [HE2.out]; rfl]
    clear HE2
    generalize w3.drewN n4 = w4 at *
    go_upto_region 9 with (first
      | (go_at_call 27; (with_reducible refine (HT2.out _).mono ?_); rintro e w5 ⟨rfl, rfl⟩)
      | (go_at_call 31; (with_reducible refine (HTK1.out _ _ H4.out).mono ?_); rintro e w6 ⟨rfl, h6⟩; have H6 := Lib.hid h6; clear h6))
    obtain ⟨n, a, b, hsz, hy0, hyn, hmn, hn2⟩ : ∃ (n : Nat) (a b : UInt8), (str lv).size = n + 1 ∧ (∀ h : 0 < (str lv).size, (str lv)[0]'h = a) ∧ (∀ h : n < (str lv).size, (str lv)[n]'h = b) ∧ min (a.toNat : Int) (b.toNat : Int) = ((nmX lv).toNat : Int) ∧ n ≤ 1 := by
      rcases HKD.out with rfl | rfl | rfl | rfl
      · exact ⟨0, 2, 2, rfl, fun _ => rfl, fun _ => rfl, by decide, by decide⟩
      · exact ⟨0, 3, 3, rfl, fun _ => rfl, fun _ => rfl, by decide, by decide⟩
      · exact ⟨1, 2, 3, rfl, fun _ => rfl, fun _ => rfl, by decide, by decide⟩
      · exact ⟨1, 3, 2, rfl, fun _ => rfl, fun _ => rfl, by decide, by decide⟩
    have hM3 : (nmX lv).toNat ≤ 3 := by unfold nmX; split <;> decide
    have HBY : Hid (∀ W, Calls Tryz.prog 38 #[.int .u64 ((nmX lv).toNat : Int), .int .i64 1] W fun e w' => e = .returned (.string (str [nmX lv])) ∧ Below W.heap.size W w') := Lib.hid (fun W => by
      have h9 := refBytes_any (nmX lv).toNat 1 (by omega) (by decide) W
      have e : beBytes 1 (nmX lv).toNat = [nmX lv] := by
        show [UInt8.ofNat ((nmX lv).toNat / 256 ^ 0 % 256)] = _
        rw [Nat.pow_zero, Nat.div_one, Nat.mod_eq_of_lt (by omega)]
        simp
      rw [e] at h9
      exact h9)
    have HTH := Lib.hid (HTH1.out [⟨35, 1 :: (nmX lv) :: [2, 3]⟩] C)
    obtain ⟨z, hz⟩ : ∃ z, str [nmX lv] = z := ⟨_, rfl⟩
    rw [hz] at HBY HTH
    obtain ⟨m0, hM⟩ : ∃ m0, (nmX lv).toNat = m0 := ⟨_, rfl⟩
    rw [hM] at HBY hmn hM3
    have hmn2 : (if (b.toNat : Int) < (a.toNat : Int) then (b.toNat : Int) else (a.toNat : Int)) = (m0 : Int) := by rw [← hmn]; split <;> omega
    have hmn3 : (if (a.toNat : Int) ≤ (b.toNat : Int) then (a.toNat : Int) else (b.toNat : Int)) = (m0 : Int) := by rw [← hmn]; split <;> omega
    have qa : IntKind.u64.wrap (m0 : Int) = (m0 : Int) := by rw [IntKind.wrap_u64]; omega
    obtain ⟨os, hos⟩ : ∃ os, ([⟨35, 1 :: (nmX lv) :: [2, 3]⟩] : List M.Opt) = os := ⟨_, rfl⟩
    rw [hos] at H6 HOP1 HTH
    have HZ := Lib.hid hz
    clear hz hM hos HTH1 HTK1
    have HKD2 := HKD
    clear HKD
    obtain ⟨S1, hS1⟩ : ∃ S1, nmS lv = S1 := ⟨_, rfl⟩
    rw [hS1] at H6 HOP1 HOP2 HTH HTH6 HTK2
    clear hS1 HKD2 HZ
    generalize str lv = y at *
    have hb1 : 0 < y.size := by omega
    have hb2 : n < y.size := by omega
    have hya := hy0 hb1
    have hyb := hyn hb2
    clear hy0 hyn hl8
    have wz0 : IntKind.i64.wrap 0 = 0 := rfl
    have wz1 : IntKind.i64.wrap 1 = 1 := rfl
    go_cut [50] (fun u wx => u = .bool false ∧ Hid (NgL S1 os C B w wx))
    case first =>
      rcases (show n = 0 ∨ n = 1 by omega) with rfl | rfl
      · have hsz : y.size = 1 := hsz
        have hab : b = a := hyb.symm.trans hya
        subst hab
        have hmn4 : (b.toNat : Int) = (m0 : Int) := by rw [← hmn]; omega
        have HD6 : Hid (NgL S1 os C B w w6.drew) := Lib.hid (H6.out.below (bel_drewN w6 1))
        go_region_held3 (fun W => NgL S1 os C B w W) (first | exact HD6.out | exact H6.out.below (bel_drewN _ _) | exact (H6.out.below (bel_drewN _ _)).below hb8) ((first
          | (go_at_call 37; (with_reducible refine (HTH.out _ HD6.out).mono ?_); rintro e w7 ⟨rfl, n7, rfl⟩)
          | (go_at_call 38; (with_reducible refine (HBY.out _).mono ?_); rintro e w8 ⟨rfl, hb8⟩)))
        all_goals (
          go_wp2_with fail
          go_meet
          exact ⟨rfl, Lib.hid (by assumption)⟩)
      · have hsz : y.size = 2 := hsz
        have HD6 : Hid (NgL S1 os C B w w6.drew) := Lib.hid (H6.out.below (bel_drewN w6 1))
        go_region_held3 (fun W => NgL S1 os C B w W) (first | exact HD6.out | exact H6.out.below (bel_drewN _ _) | exact (H6.out.below (bel_drewN _ _)).below hb8) ((first
          | (go_at_call 37; (with_reducible refine (HTH.out _ HD6.out).mono ?_); rintro e w7 ⟨rfl, n7, rfl⟩)
          | (go_at_call 38; (with_reducible refine (HBY.out _).mono ?_); rintro e w8 ⟨rfl, hb8⟩)))
        all_goals (
          go_wp2_with fail
          go_meet
          exact ⟨rfl, Lib.hid (by assumption)⟩)
    case rest =>
      obtain ⟨rfl, h7⟩ := hcut
      go_wp2_with (first
        | (go_at_call 39; (first
          | ((with_reducible refine (HOP2.out _ _ H9.out).mono ?_); rintro e w10 ⟨p10, cap10, rfl, h10⟩; have H10 := Lib.hid h10; clear h10)
          | ((with_reducible refine (HOP1.out _ _ h7.out).mono ?_); rintro e w8 ⟨p8, cap8, rfl, h8⟩; have H8 := Lib.hid h8; clear h8)))
        | (go_at_call 27; (with_reducible refine (HT2.out _).mono ?_); rintro e w5 ⟨rfl, rfl⟩)
        | (go_at_call 31; (with_reducible refine (HTK2.out _ _ H8.out).mono ?_); rintro e w9 ⟨rfl, h9⟩; have H9a := Lib.hid h9; clear h9)
        | (go_at_call 37; (with_reducible refine (HTH6.out _ _ _ H9a.out).mono ?_); rintro e w11 ⟨rfl, n11, rfl⟩; have H9 := Lib.hid (H9a.out.below (bel_drewN _ n11))))
      go_ret
      exact ⟨rfl, by rw [HBe.out]; exact H10.out.bel⟩
end Go.Proofs.YtfmnpepgmedfpaaGreatDoor
