/-
  The law FeatChoose, walked (its opening handed in).
-/
import Derived.Test.YtfmnpepgmedfpaaGreatDoorFtW
namespace Go.Proofs.YtfmnpepgmedfpaaGreatDoor
open Go.ChangeShapes Go.WideShapes Go.ChangeAt Go.RowKit
set_option linter.unusedVariables false
set_option linter.unusedSimpArgs false

theorem text_cut (s : ByteArray) (n : Nat) (hn : n ≤ 9223372036854775807) (hs : s.size ≤ maxLen) : ∃ l : List UInt8, l.length ≤ n ∧ ∀ W, Calls Tryz.prog 27 #[.string s, .int .i64 n] W fun e w' => e = .returned (.string (str l)) ∧ W = w' := by
  refine ⟨(s.extract 0 (min s.size n)).data.toList, ?_, fun W => ?_⟩
  · have h : (s.extract 0 (min s.size n)).data.toList.length = (s.extract 0 (min s.size n)).size := rfl
    rw [h, ByteArray.size_extract]
    omega
  · rw [← str_eq]
    exact text_any s n hn hs W
set_option maxHeartbeats 8000000 in
set_option maxRecDepth 100000 in
theorem featChoose_walk (f : Int) (s1 s2 : ByteArray) (hs1 : s1.size ≤ maxLen) (hs2 : s2.size ≤ maxLen) (w : World)
    (hbg : Calls Tryz.prog 15 #[] w fun e w' => e = .returned (.bool true) ∧ Below w.heap.size w w') :
    Calls Tryz.prog 8 #[.int .i64 f, .string s1, .string s2] w fun e w' => e = .returned (.bool true) ∧ Below w.heap.size w w' := by
  have HBG := Lib.hid hbg
  obtain ⟨la, hla, ht1⟩ := text_cut s1 16 (by decide) hs1
  obtain ⟨lb, hlb, ht2⟩ := text_cut s2 16 (by decide) hs2
  have HT1 : Hid (∀ W, Calls Tryz.prog 27 #[.string s1, .int .i64 16] W fun e w' => e = .returned (.string (str la)) ∧ W = w') := Lib.hid ht1
  have HT2 : Hid (∀ W, Calls Tryz.prog 27 #[.string s2, .int .i64 16] W fun e w' => e = .returned (.string (str lb)) ∧ W = w') := Lib.hid ht2
  have hL1 : la.length ≤ 9223372036854775807 := by omega
  have hL2 : lb.length ≤ 9223372036854775807 := by omega
  have HC0 := Lib.hid (fun W => ftChoose_any f la lb hL1 hL2 W)
  obtain ⟨ok, hok⟩ : ∃ ok, (ftChoose f la lb).isSome = ok := ⟨_, rfl⟩
  obtain ⟨X, hX⟩ : ∃ X, str ((ftChoose f la lb).getD []) = X := ⟨_, rfl⟩
  have HC : Hid (∀ W, Calls Tryz.prog 28 #[.int .i64 f, .string (str la), .string (str lb)] W fun e w' => e = .returned (.tuple #[.string X, .bool ok]) ∧ ∃ n, w' = W.drewN n) := Lib.hid (fun W => by
    have h9 := HC0.out W
    unfold ftRet at h9
    rw [hX, hok] at h9
    exact h9)
  have HM1 := Lib.hid (fun W => ftMay_any f la hL1 W)
  have HM2 := Lib.hid (fun W => ftMay_any f lb hL2 W)
  have HSL := Lib.hid (fun j (hj : j < la.length) b (hb : la.take (j + 1) = la.take j ++ [b]) W => str_one la j hj hL1 b hb W)
  have hz1 : (str la).size = la.length := rfl
  have hz2 : (str lb).size = lb.length := rfl
  have hbt1 : ∀ i (h : i < (str la).size), (la.take (i + 1)) = la.take i ++ [(str la)[i]] := fun i h => M.bytes_take (str la) i h
  have hbt2 : ∀ i (h : i < (str lb).size), (lb.take (i + 1)) = lb.take i ++ [(str lb)[i]] := fun i h => M.bytes_take (str lb) i h
  generalize str la = A at *
  obtain ⟨D, hDD⟩ : ∃ D, str lb = D := ⟨_, rfl⟩
  rw [hDD] at HT2 HC HM2 hz2
  have hbt2' : ∀ i (h : i < D.size), (lb.take (i + 1)) = lb.take i ++ [D[i]] := by subst hDD; exact hbt2
  have HDD := Lib.hid hDD
  have HSL2 : Hid (∀ j (hj : j < A.size) W, (Instr.slice 9 (.string A) (some (.int .i64 (j : Int))) (some (.int .i64 ((j : Int) + 1))) none).run Tryz.prog W = .ok (.string (str [A[j]])) W) := Lib.hid (fun j hj W => HSL.out j (by omega) A[j] (hbt1 j hj) W)
  have HB1 := Lib.hid hbt1
  have HB2 := Lib.hid hbt2'
  have HZ1 := Lib.hid hz1
  have HZ2 := Lib.hid hz2
  have HOK := Lib.hid hok
  have HX := Lib.hid hX
  have hA : A.size ≤ 16 := by omega
  have hD : D.size ≤ 16 := by omega
  clear hbg ht1 ht2 hla hlb HC0 hok hX hbt1 hbt2 hbt2' hDD hz1 hz2 HSL hL1 hL2
  go_enter Tryz.func8, Tryz.ntmps8
  go_upto_region 6 with (first
    | (go_at_call 15; (with_reducible refine HBG.out.mono ?_); rintro e w0 ⟨rfl, hb0⟩)
    | (go_at_call 27; (first
      | ((with_reducible refine (HT1.out _).mono ?_); rintro e w1 ⟨rfl, rfl⟩)
      | ((with_reducible refine (HT2.out _).mono ?_); rintro e w2 ⟨rfl, rfl⟩)))
    | (go_at_call 28; (with_reducible refine (HC.out _).mono ?_); rintro e w3 ⟨rfl, n3, rfl⟩))
  have HBEL : Hid (Below w.heap.size w (w0.drewN n3)) := Lib.hid (bel_trans hb0 (bel_drewN _ _))
  generalize w0.drewN n3 = W3 at *
  clear hb0 HT1 HT2 HC HBG
  by_cases h3 : f = 3
  · subst h3
    unfold ftChoose at HOK HX
    rw [if_pos rfl] at HOK HX
    generalize ftMay 3 lb = m2 at *
    cases m2 with
    | false =>
      obtain rfl : false = ok := HOK.out
      clear HX HOK HB1 HB2 HZ1 HZ2 HSL2 HM1
      go_wp2_with (go_at_call 29; (with_reducible refine (HM2.out _).mono ?_); rintro e w4 ⟨rfl, n4, rfl⟩)
      go_ret
      exact ⟨rfl, HBEL.out.trans ((bel_drewN _ _).mono HBEL.out.size)⟩
    | true =>
      obtain rfl : true = ok := HOK.out
      obtain rfl : D = X := HDD.out.symm.trans HX.out
      clear HX HOK HB1 HB2 HZ1 HZ2 HSL2 HM1
      go_wp2_with (go_at_call 29; (with_reducible refine (HM2.out _).mono ?_); rintro e w4 ⟨rfl, n4, rfl⟩)
      go_ret
      exact ⟨rfl, HBEL.out.trans ((bel_drewN _ _).mono HBEL.out.size)⟩
  · have b3 : ((f : Int) == 3) = false := by rw [beq_eq_false_iff_ne]; exact h3
    unfold ftChoose at HOK HX
    rw [if_neg h3] at HOK HX
    generalize ftMay f lb = m2 at *
    generalize ftMay f la = m1 at *
    cases m1 with
    | false =>
      rw [if_neg (by decide : ¬ false = true), ite_self] at HOK HX
      obtain rfl : false = ok := HOK.out
      obtain rfl : ({ data := #[] } : ByteArray) = X := HX.out
      clear HX HOK HB1 HB2 HZ1 HZ2 HSL2 HM2
      go_wp2_with (go_at_call 29; (with_reducible refine (HM1.out _).mono ?_); rintro e w4 ⟨rfl, n4, rfl⟩)
      go_ret
      exact ⟨rfl, HBEL.out.trans ((bel_drewN _ _).mono HBEL.out.size)⟩
    | true =>
      cases m2 with
      | false =>
        rw [if_neg (by decide : ¬ false = true)] at HOK HX
        obtain rfl : false = ok := HOK.out
        obtain rfl : ({ data := #[] } : ByteArray) = X := HX.out
        clear HX HOK HB1 HB2 HZ1 HZ2 HSL2
        go_wp2_with (go_at_call 29; (first
          | ((with_reducible refine (HM1.out _).mono ?_); rintro e w4 ⟨rfl, n4, rfl⟩)
          | ((with_reducible refine (HM2.out _).mono ?_); rintro e w5 ⟨rfl, n5, rfl⟩)))
        go_ret
        exact ⟨rfl, HBEL.out.trans ((bel_drewN _ _).mono HBEL.out.size)⟩
      | true =>
        rw [if_pos rfl, if_pos rfl] at HOK HX
        go_wp2_with (go_at_call 29; (first
          | ((with_reducible refine (HM1.out _).mono ?_); rintro e w4 ⟨rfl, n4, rfl⟩)
          | ((with_reducible refine (HM2.out _).mono ?_); rintro e w5 ⟨rfl, n5, rfl⟩)))
        have HBE2 : Hid (Below w.heap.size w (W3.drewN (n4 + n5))) := Lib.hid (HBEL.out.trans ((bel_drewN _ _).mono HBEL.out.size))
        generalize W3.drewN (n4 + n5) = W5 at *
        clear HBEL HM1 HM2
        go_loopw [10] (fun iv wr => ∃ i : Nat, iv = .int .i64 (i : Int) ∧ i ≤ A.size ∧ Hid (∀ b ∈ la.take i, b ∉ lb) ∧ Hid (Below w.heap.size w wr)) (fun iv _ => A.size - (intOf iv).toNat)
        case atStart => exact ⟨0, rfl, Nat.zero_le _, Lib.hid (by intro b hb; simp at hb), HBE2⟩
        case round =>
          clear HBE2
          obtain ⟨i, rfl, hi, hg, hwr⟩ := hrel
          by_cases hia : i < A.size
          · have d9 : decide ((i : Int) < (A.size : Int)) = true := decide_eq_true (by omega)
            have HB1i := Lib.hid (HB1.out i hia)
            have hsl1 := HSL2.out i hia
            go_wp2
            go_loopw [11] (fun kv wq => ∃ k : Nat, kv = .int .i64 (k : Int) ∧ k ≤ D.size ∧ Hid (A[i] ∉ lb.take k) ∧ Hid (Below w.heap.size w wq)) (fun kv _ => D.size - (intOf kv).toNat)
            case atStart => exact ⟨0, rfl, Nat.zero_le _, Lib.hid (by simp), hwr⟩
            case round =>
              obtain ⟨k, rfl, hk, hn, hwq⟩ := hrel
              by_cases hkd : k < D.size
              · have d8 : decide ((k : Int) < (D.size : Int)) = true := decide_eq_true (by omega)
                have HB2k := Lib.hid (HB2.out k hkd)
                by_cases he : A[i] = D[k]
                · have b8 : (((A[i]).toNat : Int) == ((D[k]).toNat : Int)) = true := by rw [he, beq_iff_eq]
                  have hin : A[i] ∈ lb := by
                    have h9 : D[k] ∈ lb.take (k + 1) := by rw [HB2k.out]; simp
                    rw [he]
                    exact List.mem_of_mem_take h9
                  have hp := ftPick_at la lb i A[i] HB1i.out hg.out hin
                  rw [hp] at HOK HX
                  obtain rfl : true = ok := HOK.out
                  obtain rfl : str [A[i]] = X := HX.out
                  clear he hin hp HOK HX
                  go_wp2
                  go_quiet (fail)
                  go_wp2
                  go_ret
                  exact ⟨rfl, hwq.out.trans ((bel_drewN _ _).mono hwq.out.size)⟩
                · have b8 : (((A[i]).toNat : Int) == ((D[k]).toNat : Int)) = false := by
                    rw [beq_eq_false_iff_ne]
                    intro h9
                    exact he (UInt8.toNat_inj.1 (by omega))
                  have HN2 : Hid (A[i] ∉ lb.take (k + 1)) := Lib.hid (by
                    rw [HB2k.out]
                    intro h9
                    rcases List.mem_append.1 h9 with h9 | h9
                    · exact hn.out h9
                    · exact he (List.mem_singleton.1 h9))
                  clear he
                  go_wp2
                  go_quiet (fail)
                  go_wp2
                  refine ⟨⟨k + 1, by go_num, by omega, HN2, Lib.hid (hwq.out.trans ((bel_drewN _ _).mono hwq.out.size))⟩, ?_⟩
                  simp [intOf]; omega
              · obtain rfl : k = D.size := by omega
                have d8 : decide ((D.size : Int) < (D.size : Int)) = false := decide_eq_false (by omega)
                have HG2 : Hid (∀ b ∈ la.take (i + 1), b ∉ lb) := Lib.hid (fun b hb => by
                  rw [HB1i.out] at hb
                  rcases List.mem_append.1 hb with hb | hb
                  · exact hg.out b hb
                  · rw [List.mem_singleton.1 hb]
                    have h9 := hn.out
                    rw [HZ2.out, List.take_length] at h9
                    exact h9)
                go_wp2
                refine ⟨⟨i + 1, by go_num, by omega, HG2, hwq⟩, ?_⟩
                simp [intOf]; omega
          · obtain rfl : i = A.size := by omega
            have d9 : decide ((A.size : Int) < (A.size : Int)) = false := decide_eq_false (by omega)
            have hp : ftPick la lb = none := ftPick_none la lb (by
              have h9 := hg.out
              rw [HZ1.out, List.take_length] at h9
              exact h9)
            rw [hp] at HOK HX
            obtain rfl : false = ok := HOK.out
            obtain rfl : ({ data := #[] } : ByteArray) = X := HX.out
            clear hp HOK HX
            go_wp2
            go_ret
            exact ⟨rfl, hwr.out⟩
end Go.Proofs.YtfmnpepgmedfpaaGreatDoor
