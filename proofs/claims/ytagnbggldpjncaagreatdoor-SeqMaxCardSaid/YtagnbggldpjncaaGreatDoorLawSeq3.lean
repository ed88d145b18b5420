/-
  The law SeqMax, walked.
-/
import Derived.Test.YtagnbggldpjncaaGreatDoorLawSeq
namespace Go.Proofs.YtagnbggldpjncaaGreatDoor
open Go.ChangeShapes Go.WideShapes Go.ChangeAt Go.RowKit
set_option linter.unusedVariables false

theorem diff_mod (a b : Int) : diffI (a % 281474976710656) b = diffI a b := by unfold diffI; omega
theorem max_mod (m x : Nat) : maxStep m x % 281474976710656 = if diffI ((m % 281474976710656 : Nat) : Int) x < 0 then x % 281474976710656 else m % 281474976710656 := by
  rw [show ((m % 281474976710656 : Nat) : Int) = (m : Int) % 281474976710656 by simp, diff_mod]
  unfold maxStep; split <;> rfl

set_option maxHeartbeats 800000 in
set_option maxRecDepth 100000 in
theorem seqMaxLaw_none (s : Nat) (hs : s < 18446744073709551616) (a : Option Addr) (cap : Nat) (hcap : cap ≤ 9223372036854775807) (w : World) :
    Calls Tryz.prog 7 #[.int .u64 s, .slice a 0 cap] w fun e w' => e = .returned (.bool true) ∧ Below w.heap.size w w' := by
  have HM := Lib.hid (fun w a cap => seqMax_none s hs a cap w)
  have HS := Lib.hid (fun w => refSeq_any s hs w)
  have hmin : min (0 : Int) 12 = 0 := by decide
  go_enter Tryz.func7, Tryz.ntmps7
  go_wp2_with (first
    | (go_at_call 15; refine (begun_any _).mono ?_; rintro e w0 ⟨rfl, hb0⟩)
    | (go_at_call 31; refine (HS.out _).mono ?_; rintro e w1 ⟨rfl, rfl⟩))
  go_loop [6, 20] (fun u k => u = .int .u64 ((s : Int) % 281474976710656) ∧ k = .int .i64 0) (fun _ k => (0 - intOf k).toNat)
  case atStart => exact ⟨rfl, rfl⟩
  case round =>
    obtain ⟨rfl, rfl⟩ := hrel
    go_wp2_with (first
      | (go_at_call 40; refine (HM.out _ _ _).mono ?_; rintro e w1 ⟨rfl, rfl⟩)
      | (go_at_call 31; refine (HS.out _).mono ?_; rintro e w1 ⟨rfl, rfl⟩))
    go_ret
    exact ⟨rfl, hb0⟩

set_option maxHeartbeats 1600000 in
set_option maxRecDepth 100000 in
theorem seqMaxLaw_some (s : Nat) (hs : s < 18446744073709551616) (a : Addr) (xs : List Nat) (n cap : Nat) (hn0 : 0 < n) (hn : n ≤ xs.length) (hcap : n ≤ cap) (hcap2 : cap ≤ 9223372036854775807) (hxs : ∀ x ∈ xs, x < 18446744073709551616) (w : World) (hab : a.block < w.heap.size)
    (hc : ∀ i, i < xs.length → w.cell? (a.add i) = some (.int .u64 (xs.getD i 0 : Nat))) :
    Calls Tryz.prog 7 #[.int .u64 s, .slice (some a) n cap] w fun e w' => e = .returned (.bool true) ∧ Below w.heap.size w w' := by
  have HM := Lib.hid (fun w a cap => seqMax_none s hs a cap w)
  have HS := Lib.hid (fun w => refSeq_any s hs w)
  have HC := Lib.hid hc; have HXS := Lib.hid hxs
  clear hc hxs
  obtain ⟨k0, hk0, hk0n, hk0l⟩ : ∃ k0, min n 12 = k0 ∧ k0 ≤ n ∧ k0 ≤ 12 := ⟨_, rfl, by omega, by omega⟩
  have hxl : (xs.take k0).length = k0 := by rw [List.length_take]; omega
  have HMX : Hid (∀ W : World, (∀ i, i < xs.length → W.cell? (a.add i) = some (.int .u64 (xs.getD i 0 : Nat))) → Calls Tryz.prog 40 #[.int .u64 s, .slice (some a) k0 cap] W fun (e : Ending) w' => e = .returned (.int .u64 ((maxI s (xs.take k0) % 281474976710656 : Nat) : Int)) ∧ W = w') := Lib.hid (fun W hW => by
    have h := seqMax_any s hs a (xs.take k0) cap (fun x hx => HXS.out x (List.mem_of_mem_take hx)) (by omega) W (fun i hi => by
      rw [hxl] at hi
      rw [hW i (by omega)]
      simp [List.getD_eq_getElem?_getD, List.getElem?_take_of_lt hi])
    rw [hxl] at h
    rw [show ((maxI s (xs.take k0) % 281474976710656 : Nat) : Int) = (maxI s (xs.take k0) : Int) % 281474976710656 by simp]
    exact h)
  have hadd : ∀ i, (a.add i).block = a.block := fun i => by unfold Addr.add; split <;> rfl
  have HADD := Lib.hid hadd
  clear hxl hadd
  go_enter Tryz.func7, Tryz.ntmps7
  go_upto_region 4 with (go_at_call 15; refine (begun_any _).mono ?_; rintro e w0 ⟨rfl, hb0⟩)
  have HC0 : Hid (∀ i, i < xs.length → w0.cell? (a.add i) = some (.int .u64 (xs.getD i 0 : Nat))) := Lib.hid (fun i hi => by rw [hb0.cell (p := a.add i) (by rw [HADD.out]; exact hab)]; exact HC.out i hi)
  have HB0 := Lib.hid hb0
  clear hb0 HC
  have hmin : min (n : Int) 12 = (k0 : Int) := by omega
  clear hk0
  go_upto_region 6 with (go_at_call 31; refine (HS.out _).mono ?_; rintro e w1 ⟨rfl, rfl⟩)
  go_wp2_with fail
  go_loop [6, 20] (fun u k => ∃ (i m : Nat), i ≤ k0 ∧ Hid (m = maxI s (xs.take i) % 281474976710656) ∧ m < 281474976710656 ∧ u = .int .u64 m ∧ k = .int .i64 i) (fun _ k => k0 - (intOf k).toNat)
  case atStart => exact ⟨0, s % 281474976710656, Nat.zero_le _, Lib.hid rfl, Nat.mod_lt _ (by decide), by simp, rfl⟩
  case round =>
    obtain ⟨i, m, hi, hm, hml, rfl, rfl⟩ := hrel
    by_cases hik : i < k0
    · have hcell := HC0.out i (by omega)
      have hx : xs.getD i 0 < 18446744073709551616 := by
        have e : xs.getD i 0 = xs[i]'(by omega) := by rw [List.getD_eq_getElem?_getD, List.getElem?_eq_getElem (by omega)]; rfl
        rw [e]; exact HXS.out _ (List.getElem_mem _)
      have hsn := max_mod (maxI s (xs.take i)) (xs.getD i 0)
      rw [← maxI_snoc, ← take_snoc_nat xs i (by omega), ← hm.out] at hsn
      generalize xs.getD i 0 = x at *
      have HSN := Lib.hid hsn
      have HL := Lib.hid (fun w => refLess_any m x (by omega) hx w)
      have HSX := Lib.hid (fun w => refSeq_any x hx w)
      clear hsn
      by_cases hd : diffI m x < 0
      · have hnew : Hid (x % 281474976710656 = maxI s (xs.take (i + 1)) % 281474976710656) := Lib.hid (by rw [HSN.out, if_pos hd])
        rw [decide_eq_true hd] at HL
        clear hd
        go_wp2_with (first
          | (go_at_call 37; refine (HL.out _).mono ?_; rintro e w1 ⟨rfl, rfl⟩)
          | (go_at_call 31; refine (HSX.out _).mono ?_; rintro e w1 ⟨rfl, rfl⟩))
        go_round
        case rel => exact ⟨i + 1, x % 281474976710656, by omega, hnew, Nat.mod_lt _ (by decide), by simp, by go_num⟩
        case measure => simp [intOf]; omega
      · have hnew : Hid (m = maxI s (xs.take (i + 1)) % 281474976710656) := Lib.hid (by rw [HSN.out, if_neg hd])
        rw [decide_eq_false hd] at HL
        clear hd
        go_wp2_with (first
          | (go_at_call 37; refine (HL.out _).mono ?_; rintro e w1 ⟨rfl, rfl⟩))
        go_round
        case rel => exact ⟨i + 1, m, by omega, hnew, hml, rfl, by go_num⟩
        case measure => simp [intOf]; omega
    · obtain rfl : i = k0 := by omega
      have HMX2 := Lib.hid (HMX.out _ HC0.out)
      rw [← hm.out] at HMX2
      go_wp2_with (first
        | (go_at_call 40; (first | (with_reducible refine HMX2.out.mono ?_) | (with_reducible refine (HM.out _ _ _).mono ?_)); rintro e w1 ⟨rfl, rfl⟩)
        | (go_at_call 31; refine (HS.out _).mono ?_; rintro e w1 ⟨rfl, rfl⟩))
      go_ret
      exact ⟨rfl, HB0.out⟩

/-- A cell that is there lies in a block that is there. -/
theorem seqMax_block {w : World} {a : Addr} {v : Value} (h : w.cell? (a.add 0) = some v) : a.block < w.heap.size := by
  have hb : (a.add 0).block = a.block := by unfold Addr.add; split <;> rfl
  rw [← hb]
  rcases Nat.lt_or_ge (a.add 0).block w.heap.size with hlt | hge
  · exact hlt
  · exfalso
    unfold World.cell? at h
    rw [Array.getElem?_eq_none hge] at h
    simp at h
end Go.Proofs.YtagnbggldpjncaaGreatDoor
