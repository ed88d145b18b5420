/-
  How the document writes a code.
-/
import Derived.Test.YtjbcjcfmjagbkaaGreatDoorCodeS
import Derived.Test.YtjbcjcfmjagbkaaGreatDoorText
namespace Go.Proofs.YtjbcjcfmjagbkaaGreatDoor
open Go.ChangeShapes Go.WideShapes Go.ChangeAt Go.RowKit
set_option linter.unusedVariables false
set_option linter.unusedSimpArgs false

theorem text_to (l : List UInt8) (u : Nat) (h2 : u ≤ l.length) (W : World) :
    (Instr.slice 9 (.string (str l)) none (some (.int .i64 (u : Int))) none).run Tryz.prog W = .ok (.string (str (l.take u))) W := by
  have e := str_extract l 0 u
  rw [List.drop_zero] at e
  rw [← e]
  go_simp
  rw [str_size]
  omega
/-- Blanks from k on, as far as i. -/
def blanksP (l : List UInt8) (k i : Nat) : Prop := 0 < k ∧ ∀ j, k ≤ j → j < i → (l.getD j 0).toNat = 32

set_option maxHeartbeats 4000000 in
set_option maxRecDepth 100000 in
theorem refCodeText_any (n : Nat) (hn : n < 4294967296) (w : World) :
    Calls Tryz.prog 33 #[.int .u32 n] w fun e w' => e = .returned (.string (str (M.codeText n))) ∧ Below w.heap.size w w' := by
  have HB : Hid (∀ w : World, Calls Tryz.prog 75 #[.int .u64 n, .int .i64 4] w fun e w' => e = .returned (.string (str (beBytes 4 n))) ∧ Below w.heap.size w w') := Lib.hid (fun w => refBytes_any n 4 (by omega) (by omega) w)
  have HD := Lib.hid (fun w => decimal_any n hn w)
  have hlen := beBytes_length 4 n
  have HTP := Lib.hid (M.text_parts n)
  obtain ⟨l, hl⟩ : ∃ l, beBytes 4 n = l := ⟨_, rfl⟩
  rw [hl] at HB HTP hlen
  obtain ⟨s, hs⟩ : ∃ s, str l = s := ⟨_, rfl⟩
  have HIX := Lib.hid (fun i (hi : i < 4) W => index_s l s hs i (by omega) (i : Int) rfl W)
  have HTO := Lib.hid (fun k (hk : k ≤ 4) W => text_to l k (by omega) W)
  have hss : s.size = 4 := by rw [← hs, str_size, hlen]
  have hs4 : 4 ≤ s.size := by omega
  rw [hs] at HB HTO
  have HDL : (str (M.dgs 10 10 n)).size ≤ 10 := by rw [str_size]; exact M.dgs_len 10 10 n
  have HTK := Lib.hid (show ∀ k, (str (l.take k)).size ≤ 4 from fun k => by rw [str_size, List.length_take]; omega)
  obtain ⟨dd, hdd⟩ : ∃ dd, str (M.dgs 10 10 n) = dd := ⟨_, rfl⟩
  rw [hdd] at HD HDL
  have HDD := Lib.hid hdd
  have hcat2 : ¬ 9223372036854775807 < (⟨#[83, 67, 61]⟩ : ByteArray).size + dd.size := by show ¬ 9223372036854775807 < 3 + dd.size; omega
  clear hl hs hss hdd hlen HDL
  go_enter Tryz.func33, Tryz.ntmps33
  go_wp2_with (go_at_call 75; (with_reducible refine (HB.out _).mono ?_); rintro e w1 ⟨rfl, hb1⟩)
  have HB1 := Lib.hid hb1
  clear hb1
  go_loop [4] (fun a => ∃ k : Nat, k ≤ 4 ∧ a = .int .i64 (k : Int) ∧ Hid (∀ j, j < k → M.isSgn (l.getD j 0).toNat = true)) (fun a => 4 - (intOf a).toNat)
  case atStart => exact ⟨0, by omega, rfl, Lib.hid (fun j hj => absurd hj (Nat.not_lt_zero j))⟩
  case round =>
    obtain ⟨k, hk, rfl, hall⟩ := hrel
    by_cases hgo : k < 4 ∧ M.isSgn (l.getD k 0).toNat = true
    · obtain ⟨hk4, hsg⟩ := hgo
      have hix := HIX.out k hk4
      have hB := (l.getD k 0).toNat_lt
      have HSG := Lib.hid (fun w => refSign_any (l.getD k 0).toNat hB w)
      rw [hsg] at HSG
      have HA : Hid (∀ j, j < k + 1 → M.isSgn (l.getD j 0).toNat = true) := Lib.hid (fun j hj => by
        by_cases e : j = k
        · subst e; exact hsg
        · exact hall.out j (by omega))
      generalize (l.getD k 0).toNat = B at *
      have dk : decide ((k : Int) < 4) = true := decide_eq_true (by omega)
      clear hall hsg
      go_wp2_with (go_at_call 79; (with_reducible refine (HSG.out _).mono ?_); rintro e w2 ⟨rfl, rfl⟩)
      go_round
      case rel => exact ⟨k + 1, by omega, by go_num, HA⟩
      case measure => simp [intOf]; omega
    · have HK := Lib.hid (HTP.out k hk hall.out (fun h => by
        cases e : M.isSgn (l.getD k 0).toNat with
        | false => rfl
        | true => exact absurd ⟨h, e⟩ hgo))
      have hcase : (¬ k < 4) ∨ (k < 4 ∧ M.isSgn (l.getD k 0).toNat = false) := by
        by_cases h : k < 4
        · right
          refine ⟨h, ?_⟩
          cases e : M.isSgn (l.getD k 0).toNat with
          | false => rfl
          | true => exact absurd ⟨h, e⟩ hgo
        · exact .inl h
      clear hgo hall
      have fin : ∀ (B0 : Bool), (B0 = true ↔ 0 < k) → True := fun _ _ => trivial
      clear fin
      obtain ⟨g0, hg0⟩ : ∃ g0, decide (0 < k) = g0 := ⟨_, rfl⟩
      have HG0 : Hid (g0 = true ↔ 0 < k) := Lib.hid (by rw [← hg0, decide_eq_true_iff])
      rcases hcase with hc | ⟨hc, hsg⟩
      · have dk : decide ((k : Int) < 4) = false := decide_eq_false (by omega)
        have HCK : Hid (k = 4) := Lib.hid (by omega)
        clear hc
        go_wp2
        go_loop [5, 6] (fun v i => ∃ (G : Bool) (j : Nat), k ≤ j ∧ j ≤ 4 ∧ i = .int .i64 (j : Int) ∧ v = .bool G ∧ Hid (G = true ↔ blanksP l k j)) (fun _ i => 4 - (intOf i).toNat)
        case atStart => exact ⟨g0, k, Nat.le_refl _, hk, rfl, rfl, Lib.hid (HG0.out.trans ⟨fun h => ⟨h, fun j h1 h2 => by omega⟩, fun h => h.1⟩)⟩
        case round =>
          obtain ⟨G, j, hkj, hj, rfl, rfl, hG⟩ := hrel
          obtain rfl : j = 4 := by have := HCK.out; omega
          have dj : decide (((4 : Nat) : Int) < 4) = false := decide_eq_false (by omega)
          cases G with
          | true =>
            have HV := Lib.hid (HK.out.1 (hG.out.1 rfl))
            have hto := HTO.out k hk
            have htk := HTK.out k
            have HRR : Hid (str (M.codeText n) = ⟨#[83, 67, 58]⟩ ++ str (l.take k)) := Lib.hid (by rw [HV.out]; exact (str_append sSC _).symm)
            clear hG
            generalize str (l.take k) = tk at *
            have hcat : ¬ 9223372036854775807 < (⟨#[83, 67, 58]⟩ : ByteArray).size + tk.size := by show ¬ 9223372036854775807 < 3 + tk.size; omega
            go_wp2
            go_ret
            exact ⟨ret_str HRR.out.symm, HB1.out⟩
          | false =>
            have HV := Lib.hid (HK.out.2 (fun h => Bool.noConfusion (hG.out.2 h)))
            have HRR : Hid (str (M.codeText n) = ⟨#[83, 67, 61]⟩ ++ dd) := Lib.hid (by rw [HV.out, ← HDD.out]; exact (str_append sSN _).symm)
            clear hG
            go_wp2_with (go_at_call 54; (with_reducible refine (HD.out _).mono ?_); rintro e w3 ⟨rfl, hb3⟩)
            go_ret
            exact ⟨ret_str HRR.out.symm, bel_trans HB1.out hb3⟩
      · have hix := HIX.out k hc
        have hB := (l.getD k 0).toNat_lt
        have HSG := Lib.hid (fun w => refSign_any (l.getD k 0).toNat hB w)
        rw [hsg] at HSG
        have dk : decide ((k : Int) < 4) = true := decide_eq_true (by omega)
        generalize hBB : (l.getD k 0).toNat = B at *
        clear hsg hBB
        go_wp2_with (go_at_call 79; (with_reducible refine (HSG.out _).mono ?_); rintro e w2 ⟨rfl, rfl⟩)
        clear hix dk hB
        go_loop [5, 6] (fun v i => ∃ (G : Bool) (j : Nat), k ≤ j ∧ j ≤ 4 ∧ i = .int .i64 (j : Int) ∧ v = .bool G ∧ Hid (G = true ↔ blanksP l k j)) (fun _ i => 4 - (intOf i).toNat)
        case atStart => exact ⟨g0, k, Nat.le_refl _, hk, rfl, rfl, Lib.hid (HG0.out.trans ⟨fun h => ⟨h, fun j h1 h2 => by omega⟩, fun h => h.1⟩)⟩
        case round =>
          obtain ⟨G, j, hkj, hj, rfl, rfl, hG⟩ := hrel
          by_cases hj4 : j < 4
          · have dj : decide ((j : Int) < 4) = true := decide_eq_true (by omega)
            cases G with
            | true =>
              have hix := HIX.out j hj4
              have HP := Lib.hid (hG.out.1 rfl)
              obtain ⟨q, hq⟩ : ∃ q, (((l.getD j 0).toNat : Int) == 32) = q := ⟨_, rfl⟩
              have HQ : Hid (q = true ↔ blanksP l k (j + 1)) := Lib.hid (by
                rw [← hq, beq_iff_eq]
                constructor
                · intro h
                  refine ⟨HP.out.1, fun i h1 h2 => ?_⟩
                  by_cases e : i = j
                  · subst e; omega
                  · exact HP.out.2 i h1 (by omega)
                · intro h
                  have := h.2 j hkj (by omega)
                  omega)
              have hBj := (l.getD j 0).toNat_lt
              generalize (l.getD j 0).toNat = Bj at *
              clear hG
              go_wp2
              go_round
              case rel => exact ⟨q, j + 1, by omega, by omega, by go_num, rfl, HQ⟩
              case measure => simp [intOf]; omega
            | false =>
              have HQ : Hid (false = true ↔ blanksP l k (j + 1)) := Lib.hid ⟨fun h => (by cases h), fun h => by
                have h3 := hG.out.2 ⟨h.1, fun i h1 h2 => h.2 i h1 (by omega)⟩
                exact h3⟩
              clear hG
              go_wp2
              go_round
              case rel => exact ⟨false, j + 1, by omega, by omega, by go_num, rfl, HQ⟩
              case measure => simp [intOf]; omega
          · obtain rfl : j = 4 := by omega
            have dj : decide (((4 : Nat) : Int) < 4) = false := decide_eq_false (by omega)
            cases G with
            | true =>
              have HV := Lib.hid (HK.out.1 (hG.out.1 rfl))
              have hto := HTO.out k hk
              have htk := HTK.out k
              have HRR : Hid (str (M.codeText n) = ⟨#[83, 67, 58]⟩ ++ str (l.take k)) := Lib.hid (by rw [HV.out]; exact (str_append sSC _).symm)
              clear hG
              generalize str (l.take k) = tk at *
              have hcat : ¬ 9223372036854775807 < (⟨#[83, 67, 58]⟩ : ByteArray).size + tk.size := by show ¬ 9223372036854775807 < 3 + tk.size; omega
              go_wp2
              go_ret
              exact ⟨ret_str HRR.out.symm, HB1.out⟩
            | false =>
              have HV := Lib.hid (HK.out.2 (fun h => Bool.noConfusion (hG.out.2 h)))
              have HRR : Hid (str (M.codeText n) = ⟨#[83, 67, 61]⟩ ++ dd) := Lib.hid (by rw [HV.out, ← HDD.out]; exact (str_append sSN _).symm)
              clear hG
              go_wp2_with (go_at_call 54; (with_reducible refine (HD.out _).mono ?_); rintro e w3 ⟨rfl, hb3⟩)
              go_ret
              exact ⟨ret_str HRR.out.symm, bel_trans HB1.out hb3⟩
end Go.Proofs.YtjbcjcfmjagbkaaGreatDoor
namespace Go.Proofs.YtjbcjcfmjagbkaaGreatDoor
open Go
namespace M
theorem trim_signs (q : List UInt8) (k : Nat) (h : ∀ a b, q = a ++ [b] → b ≠ 32) : Lib.trimRightB (q ++ List.replicate k 32) 32 = q := by
  unfold Lib.trimRightB
  rw [List.reverse_append, List.reverse_replicate, List.dropWhile_append_of_pos (by intro a ha; rw [List.eq_of_mem_replicate ha]; rfl)]
  have e : q.reverse.dropWhile (· == 32) = q.reverse := by
    cases hr : q.reverse with
    | nil => rfl
    | cons b t =>
      have hq := congrArg List.reverse hr
      rw [List.reverse_reverse, List.reverse_cons] at hq
      have hb := h _ _ hq
      rw [List.dropWhile_cons_of_neg (by simpa using hb)]
  rw [e, List.reverse_reverse]
theorem be_big (a b c d : UInt8) : beBytes 4 (bigF 0 [a, b, c, d]) = [a, b, c, d] := by
  have ha := a.toNat_lt; have hb := b.toNat_lt; have hc := c.toNat_lt; have hd := d.toNat_lt
  have e : bigF 0 [a, b, c, d] = ((a.toNat * 256 + b.toNat) * 256 + c.toNat) * 256 + d.toNat := by simp [bigF]
  rw [e]
  generalize hn : ((a.toNat * 256 + b.toNat) * 256 + c.toNat) * 256 + d.toNat = n
  have k3 : UInt8.ofNat (n / 256 ^ 3 % 256) = a := UInt8.toNat_inj.1 (by rw [UInt8.toNat_ofNat']; omega)
  have k2 : UInt8.ofNat (n / 256 ^ 2 % 256) = b := UInt8.toNat_inj.1 (by rw [UInt8.toNat_ofNat']; omega)
  have k1 : UInt8.ofNat (n / 256 ^ 1 % 256) = c := UInt8.toNat_inj.1 (by rw [UInt8.toNat_ofNat']; omega)
  have k0 : UInt8.ofNat (n / 256 ^ 0 % 256) = d := UInt8.toNat_inj.1 (by rw [UInt8.toNat_ofNat']; omega)
  show [UInt8.ofNat (n / 256 ^ 3 % 256), UInt8.ofNat (n / 256 ^ 2 % 256), UInt8.ofNat (n / 256 ^ 1 % 256), UInt8.ofNat (n / 256 ^ 0 % 256)] = _
  rw [k3, k2, k1, k0]
theorem be_list (l : List UInt8) (h : l.length = 4) : beBytes 4 (bigF 0 l) = l := by
  match l, h with
  | [a, b, c, d], _ => exact be_big a b c d
/-- A code that signs name is written by them. -/
theorem text_back (q : List UInt8) (n : Nat) (h : ofSgn q = some n) : codeText n = sSC ++ q ∧ n < 4294967296 := by
  obtain ⟨h0, h4, ha, e⟩ := ofSgn_parts q n h
  have hb := be_list (q ++ List.replicate (4 - q.length) 32) (by rw [List.length_append, List.length_replicate]; omega)
  rw [← e] at hb
  have hs : signs n = q := by
    unfold signs
    rw [hb]
    refine trim_signs q _ (fun a b hq hb2 => ?_)
    have := ha b (by rw [hq]; simp)
    rw [hb2] at this
    revert this; decide
  refine ⟨?_, ?_⟩
  · unfold codeText; rw [hs, h]
  · have hl : (q ++ List.replicate (4 - q.length) 32).length = 4 := by rw [List.length_append, List.length_replicate]; omega
    rw [e]
    match q ++ List.replicate (4 - q.length) 32, hl with
    | [a, b, c, d], _ =>
      have ha := a.toNat_lt; have hb := b.toNat_lt; have hc := c.toNat_lt; have hd := d.toNat_lt
      have e2 : bigF 0 [a, b, c, d] = ((a.toNat * 256 + b.toNat) * 256 + c.toNat) * 256 + d.toNat := by simp [bigF]
      rw [e2]; omega
end M
end Go.Proofs.YtjbcjcfmjagbkaaGreatDoor
