/-
  What the functions of package sum come to.
-/
import Derived.Test.YtdlpapchjjbplaaGreatDoorChecked
import Derived.Test.YtdlpapchjjbplaaGreatDoorSumMath
import Derived.ProofKit
import Derived.LoopTactic
import Derived.Outline
namespace Go.Proofs.YtdlpapchjjbplaaGreatDoor
open Go.ChangeShapes Go.WideShapes Go.ChangeAt Go.RowKit
set_option linter.unusedVariables false

theorem turned_any (t : Nat) (h : t ≤ 4611686018427387904) (w : World) :
    Calls Tryz.prog 52 #[.int .i64 t] w fun e w' => e = .returned (.int .i64 (65535 - M.fold16 t : Nat)) ∧ w = w' := by
  go_enter Tryz.func52, Tryz.ntmps52
  go_wp2
  go_loop [0] (fun u => ∃ x : Nat, u = .int .i64 x ∧ x ≤ 4611686018427387904 ∧ Hid (M.fold16 x = M.fold16 t)) (fun u => (intOf u).toNat)
  case atStart => exact ⟨t, rfl, h, Lib.hid rfl⟩
  case round =>
    obtain ⟨x, rfl, hx, hf⟩ := hrel
    by_cases hgt : 65535 < x
    · have hm := M.i64_mask16 x (by omega)
      obtain ⟨y, hy⟩ : ∃ y, x % 65536 = y := ⟨_, rfl⟩
      rw [hy] at hm
      have hy2 : y + x / 65536 < x := by omega
      have HS := Lib.hid (M.fold16_step hgt)
      rw [hy] at HS
      have HY := Lib.hid hy; clear hy
      go_wp2
      go_round
      case rel => exact ⟨y + x / 65536, by simp, by omega, Lib.hid (by rw [HS.out]; exact hf.out)⟩
      case measure => simp [intOf]; omega
    · have hm := M.i64_xor16 x (by omega)
      go_wp2
      go_ret
      exact ⟨M.ret_int (by rw [← hf.out, M.fold16_small (by omega)]), rfl⟩

theorem words_any (a : Addr) (ss : List ByteArray) (cap : Nat) (hn : ss.length ≤ 9223372036854775807) (hsz : ∀ s ∈ ss, s.size ≤ maxLen) (hlen : (M.joined ss).length ≤ 17179869184) (w : World)
    (hc : ∀ i, i < ss.length → w.cell? (a.add i) = some (.string (ss.getD i ByteArray.empty))) :
    Calls Tryz.prog 53 #[.slice (some a) ss.length cap] w fun e w' => e = .returned (.int .i64 (M.wsum true (M.joined ss))) ∧ w = w' := by
  have HC := Lib.hid hc; clear hc
  have HSZ := Lib.hid hsz; clear hsz
  go_enter Tryz.func53, Tryz.ntmps53
  go_wp2
  go_loop [3, 4, 10] (fun u v k => ∃ kn : Nat, kn ≤ ss.length ∧ u = .int .i64 (M.wsum true (M.joined (ss.take kn))) ∧ v = .int .i64 (M.shiftAt (M.joined (ss.take kn)).length) ∧ k = .int .i64 kn) (fun _ _ k => ss.length - (intOf k).toNat)
  case atStart => exact ⟨0, Nat.zero_le _, rfl, rfl, rfl⟩
  case round =>
    obtain ⟨kn, hk, rfl, rfl, rfl⟩ := hrel
    by_cases hlt : kn < ss.length
    · have hcell := HC.out kn hlt
      have hj := M.joined_take ss kn hlt
      have hjl := M.joined_take_le ss (kn + 1)
      have hs : (ss.getD kn ByteArray.empty).size ≤ maxLen := by
        have e : ss.getD kn ByteArray.empty = ss[kn] := by simp [hlt]
        rw [e]; exact HSZ.out _ (List.getElem_mem hlt)
      unfold maxLen at hs
      generalize ss.getD kn ByteArray.empty = s at *
      generalize M.joined (ss.take kn) = pre at *
      rw [hj] at hjl
      have HJ := Lib.hid hj; clear hj
      simp only [List.length_append, Array.length_toList] at hjl
      have hss : s.data.size = s.size := rfl
      rw [hss] at hjl
      clear hss
      go_wp2
      go_loop [3, 4, 16] (fun u v k => ∃ i : Nat, i ≤ s.size ∧ u = .int .i64 (M.wsum true (pre ++ s.data.toList.take i)) ∧ v = .int .i64 (M.shiftAt (pre ++ s.data.toList.take i).length) ∧ k = .int .i64 i) (fun _ _ k => s.size - (intOf k).toNat)
      case atStart => exact ⟨0, Nat.zero_le _, by simp, by simp, rfl⟩
      case round =>
        obtain ⟨i, hi, rfl, rfl, rfl⟩ := hrel
        by_cases hil : i < s.size
        · have hb := M.bytes_take s i hil
          have hl : (pre ++ s.data.toList.take i).length = pre.length + i := by simp; omega
          have hsn := M.wsum_snoc (pre ++ s.data.toList.take i) s[i]
          have hle := M.wsum_le (pre ++ s.data.toList.take i) true
          rw [List.append_assoc, ← hb, hl] at hsn
          rw [hl] at hle
          have hb2 : (s[i]).toNat < 256 := (s[i]).toNat_lt
          have hl2 : (pre ++ s.data.toList.take (i + 1)).length = pre.length + i + 1 := by simp; omega
          simp only [hl]
          generalize M.wsum true (pre ++ s.data.toList.take i) = m at *
          have HSN := Lib.hid hsn
          have HL2 := Lib.hid hl2
          clear hsn hl hl2 hb
          by_cases hp : (pre.length + i) % 2 = 0
          · have h1 := M.shiftAt_even hp
            have h2 := M.shiftAt_odd (n := pre.length + i + 1) (by omega)
            rw [h1]
            have HP := Lib.hid hp; have H2 := Lib.hid h2; clear hp h1 h2
            go_wp2
            go_round
            case rel => exact ⟨i + 1, by omega, by rw [HSN.out, if_pos HP.out]; go_num, by rw [HL2.out, H2.out]; rfl, by go_num⟩
            case measure => simp [intOf]; omega
          · have h1 := M.shiftAt_odd hp
            have h2 := M.shiftAt_even (n := pre.length + i + 1) (by omega)
            rw [h1]
            have HP := Lib.hid hp; have H2 := Lib.hid h2; clear hp h1 h2
            go_wp2
            go_round
            case rel => exact ⟨i + 1, by omega, by rw [HSN.out, if_neg HP.out]; go_num, by rw [HL2.out, H2.out]; rfl, by go_num⟩
            case measure => simp [intOf]; omega
        · obtain rfl : i = s.size := by omega
          have ht : s.data.toList.take s.size = s.data.toList := List.take_of_length_le (by simp)
          rw [ht, ← HJ.out]
          go_wp2
          go_round
          case rel => exact ⟨kn + 1, by omega, rfl, rfl, by go_num⟩
          case measure => simp [intOf]; omega
    · obtain rfl : kn = ss.length := by omega
      have ht : ss.take ss.length = ss := List.take_length
      rw [ht] at *
      generalize hmg : M.wsum true (M.joined ss) = m at *
      have HMG := Lib.hid hmg; clear hmg
      go_wp2
      go_ret
      exact ⟨M.ret_int (by rw [HMG.out]), rfl⟩
end Go.Proofs.YtdlpapchjjbplaaGreatDoor
