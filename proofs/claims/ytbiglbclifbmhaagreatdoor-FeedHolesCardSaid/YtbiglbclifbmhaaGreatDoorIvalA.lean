/-
  Package ival and the document's sums: contracts.
-/
import Derived.Test.YtbiglbclifbmhaaGreatDoorIvalM
import Derived.Test.YtbiglbclifbmhaaGreatDoorFixM
import Derived.Test.YtbiglbclifbmhaaGreatDoorBel
import Derived.BigQuiet
namespace Go.Proofs.YtbiglbclifbmhaaGreatDoor
open Go.ChangeShapes Go.WideShapes Go.ChangeAt Go.RowKit
set_option linter.unusedVariables false
set_option linter.unusedSimpArgs false

/-- The table of the weights. -/
def TabW (w : World) : Prop := ∀ i, i < 8 → w.cell? ⟨2, i, none⟩ = some (.int .u64 (M.wt i))
theorem TabW.drewN {w : World} (h : TabW w) (n : Nat) : TabW (w.drewN n) := h
theorem TabW.below {w w' : World} (h : TabW w) (hb : Below w.heap.size w w') : TabW w' := fun i hi => by
  have h0 := h i hi
  have hlt : 2 < w.heap.size := by
    rcases Nat.lt_or_ge 2 w.heap.size with h' | h'
    · exact h'
    · simp [World.cell?, Array.getElem?_eq_none h'] at h0
  rw [hb.cell (p := ⟨2, i, none⟩) hlt]; exact h0
theorem wt_le (i : Nat) : M.wt i ≤ 5 := by
  unfold M.wt
  rcases i with _ | _ | _ | _ | _ | _ | _ | _ | i <;> simp
theorem wt_far {i : Nat} (h : 8 ≤ i) : M.wt i = 0 := by
  unfold M.wt
  rw [List.getD_eq_getElem?_getD, List.getElem?_eq_none (by simpa using h)]; rfl
/-- What Weight answers at whatever place. -/
def wtI (i : Int) : Nat := if i < 0 then 0 else M.wt i.toNat
theorem wtI_nat (i : Nat) : wtI (i : Int) = M.wt i := by unfold wtI; rw [if_neg (by omega)]; rfl
theorem weight_any (i : Int) (h1 : -9223372036854775808 ≤ i) (h2 : i ≤ 9223372036854775807) (w : World) (hT : TabW w) :
    Calls Tryz.prog 104 #[.int .i64 i] w fun e w' => e = .returned (.int .u64 (wtI i)) ∧ w' = w := by
  by_cases h0 : i < 0
  · have e0 : decide (i < 0) = true := decide_eq_true h0
    have hv : wtI i = 0 := if_pos h0
    rw [hv]
    clear hT hv
    go_enter Tryz.func104, Tryz.ntmps104
    go_wp2
    go_ret
    exact ⟨rfl, rfl⟩
  · have e0 : decide (i < 0) = false := decide_eq_false h0
    by_cases h8 : 8 ≤ i
    · have e8 : decide (8 ≤ i) = true := decide_eq_true h8
      have hv : wtI i = 0 := by unfold wtI; rw [if_neg h0, wt_far (by omega)]
      rw [hv]
      clear hT hv
      go_enter Tryz.func104, Tryz.ntmps104
      go_wp2
      go_ret
      exact ⟨rfl, rfl⟩
    · have e8 : decide (8 ≤ i) = false := decide_eq_false h8
      obtain ⟨n, rfl⟩ := Int.eq_ofNat_of_zero_le (show 0 ≤ i by omega)
      have hc := hT n (by omega)
      rw [wtI_nat]
      generalize M.wt n = v at *
      clear hT
      go_enter Tryz.func104, Tryz.ntmps104
      go_wp2
      go_ret
      exact ⟨rfl, rfl⟩

/-- A slice of unsigned numbers in memory. -/
structure U64At (w : World) (v : Value) (l : List Nat) : Prop where
  at_ : ∃ p cap, v = .slice p l.length cap ∧ l.length ≤ cap ∧ cap ≤ 9223372036854775807 ∧ ∀ i, i < l.length → ∃ b o, p = some ⟨b, o, none⟩ ∧ b < w.heap.size ∧ w.cell? ⟨b, o + i, none⟩ = some (.int .u64 (l.getD i 0))
  len : l.length ≤ 1073741824
  small : ∀ i, l.getD i 0 < 18446744073709551616
theorem U64At.drewN {w : World} {v : Value} {l : List Nat} (h : U64At w v l) (n : Nat) : U64At (w.drewN n) v l := ⟨h.at_, h.len, h.small⟩
theorem U64At.below {w w' : World} {v : Value} {l : List Nat} (h : U64At w v l) (hb : Below w.heap.size w w') : U64At w' v l := by
  obtain ⟨p, cap, hv, h1, h2, hc⟩ := h.at_
  refine ⟨⟨p, cap, hv, h1, h2, fun i hi => ?_⟩, h.len, h.small⟩
  obtain ⟨b, o, hp, hlt, hcell⟩ := hc i hi
  exact ⟨b, o, hp, Nat.lt_of_lt_of_le hlt hb.size, by rw [hb.cell (p := ⟨b, o + i, none⟩) hlt]; exact hcell⟩
theorem take_snocN (l : List Nat) (i : Nat) (h : i < l.length) : l.take (i + 1) = l.take i ++ [l.getD i 0] := by
  rw [List.take_add_one, List.getD_eq_getElem?_getD, List.getElem?_eq_getElem h]; rfl
theorem wFold_small : ∀ (l : List Nat) (s p : Nat), s ≤ 18446744073709551615 → M.wFold s l p ≤ 18446744073709551615 := fun l s p h => by rw [M.wFold_eq l s p h]; omega

set_option maxHeartbeats 1000000 in
theorem weighed_any (s : Nat) (v : Value) (l : List Nat) (q : Nat) (hs : s < 18446744073709551616) (hq : q ≤ 1000) (hl : l.length ≤ 1000) (w : World) (hT : TabW w) (hv : U64At w v l) :
    Calls Tryz.prog 105 #[.int .u64 s, v, .int .i64 q] w fun e w' => e = .returned (.int .u64 (M.wFold s l q)) ∧ w' = w := by
  obtain ⟨p, cap, rfl, _, _, hc⟩ := hv.at_
  have HC := Lib.hid hc
  have HSM := Lib.hid hv.small
  have HT := Lib.hid hT
  obtain ⟨n, hn⟩ : ∃ n, l.length = n := ⟨_, rfl⟩
  have HN := Lib.hid hn
  rw [hn] at HC hl ⊢
  clear hc hv hT hn
  go_enter Tryz.func105, Tryz.ntmps105
  go_wp2
  go_loop [0, 11] (fun a i => ∃ k : Nat, k ≤ n ∧ i = .int .i64 (k : Int) ∧ a = .int .u64 (M.wFold s (l.take k) q : Nat)) (fun _ i => n - (intOf i).toNat)
  case atStart => exact ⟨0, Nat.zero_le _, rfl, rfl⟩
  case round =>
    obtain ⟨k, hk, rfl, rfl⟩ := hrel
    by_cases hkn : k < n
    · obtain ⟨b, o, rfl, hlt, hcell⟩ := HC.out k hkn
      have hx := HSM.out k
      have hts := take_snocN l k (by rw [HN.out]; exact hkn)
      have hnext : M.wFold s (l.take (k + 1)) q = M.addT (M.wFold s (l.take k) q) (M.mulT (l.getD k 0) (M.wt (q + k))) := by
        rw [hts, M.wFold_snoc, List.length_take, show min k l.length = k by rw [HN.out]; omega]
      have HX := Lib.hid hnext
      have ha := wFold_small (l.take k) s q (by omega)
      have hw5 := wt_le (q + k)
      have HW := Lib.hid (fun W (h : TabW W) => weight_any (((q + k : Nat)) : Int) (by omega) (by omega) W h)
      rw [wtI_nat] at HW
      generalize l.getD k 0 = x at *
      generalize M.wFold s (l.take k) q = a at *
      generalize M.wt (q + k) = u at *
      have HM := Lib.hid (fun W => fixMul_any x u hx (by omega) W)
      have hmb : M.mulT x u < 18446744073709551616 := by rw [M.mulT_min]; omega
      generalize M.mulT x u = m at *
      have HA := Lib.hid (fun W => fixSum_any a m (by omega) hmb W)
      generalize M.addT a m = r at *
      rw [show (((q + k : Nat)) : Int) = (q : Int) + (k : Int) by omega] at HW
      clear hts hnext
      go_wp2_with (first
        | (go_at_call 104; (with_reducible refine (HW.out _ HT.out).mono ?_); rintro e w1 ⟨rfl, rfl⟩)
        | (go_at_call 67; (with_reducible refine (HM.out _).mono ?_); rintro e w1 ⟨rfl, rfl⟩)
        | (go_at_call 103; (with_reducible refine (HA.out _).mono ?_); rintro e w1 ⟨rfl, rfl⟩))
      refine ⟨⟨k + 1, by omega, by go_num, by rw [HX.out]⟩, ?_⟩
      simp [intOf]; omega
    · obtain rfl : k = n := by omega
      have ht : l.take k = l := List.take_of_length_le (by rw [HN.out]; exact Nat.le_refl _)
      rw [ht]
      clear ht
      go_wp2
      go_ret
      exact ⟨rfl, rfl⟩
theorem U64At.take {w : World} {p : Option Addr} {cap : Nat} {l : List Nat} (h : U64At w (.slice p l.length cap) l) (k : Nat) (hk : k ≤ l.length) : U64At w (.slice p k cap) (l.take k) := by
  obtain ⟨p', cap', hv, h1, h2, hc⟩ := h.at_
  injection hv with e1 _ e2
  subst e1 e2
  have hl : (l.take k).length = k := by rw [List.length_take]; omega
  have hg : ∀ i, (l.take k).getD i 0 = if i < k then l.getD i 0 else 0 := fun i => by
    rw [List.getD_eq_getElem?_getD, List.getD_eq_getElem?_getD, List.getElem?_take]
    split <;> rfl
  refine ⟨⟨p, cap, by rw [hl], by omega, h2, fun i hi => ?_⟩, by have := h.len; omega, fun i => ?_⟩
  · rw [hl] at hi
    obtain ⟨b, o, e, hlt, hcell⟩ := hc i (by omega)
    exact ⟨b, o, e, hlt, by rw [hg, if_pos hi]; exact hcell⟩
  · rw [hg]
    split
    · exact h.small i
    · decide
theorem wTot_succ : ∀ j : Fin 8, M.addT (M.wTot j.val) (M.wt j.val) = M.wTot (j.val + 1) ∧ M.wTot j.val ≤ 30 := by decide

set_option maxHeartbeats 2000000 in
theorem weigh_any (o : Nat) (v : Value) (l : List Nat) (ho : o < 18446744073709551616) (w : World) (hT : TabW w) (hv : U64At w v l) :
    Calls Tryz.prog 72 #[.int .u64 o, v] w fun e w' => e = .returned (.tuple #[.int .u64 (if l = [] then 0 else M.weighTot l), .int .u64 (if l = [] then 0 else M.weighLen o l)]) ∧ ∃ n, w' = w.drewN n := by
  obtain ⟨p, cap, rfl, hcap, hcm, _⟩ := hv.at_
  by_cases hl0 : l = []
  · subst hl0
    rw [if_pos rfl, if_pos rfl]
    clear hT hv
    go_enter Tryz.func72, Tryz.ntmps72
    go_wp2
    go_ret2
    exact ⟨rfl, 0, rfl⟩
  · rw [if_neg hl0, if_neg hl0]
    have hlen := hv.len
    have h0 : 0 < l.length := List.length_pos_iff.2 hl0
    obtain ⟨k, hk⟩ : ∃ k : Nat, min l.length 8 = k := ⟨_, rfl⟩
    have hk8 : k ≤ 8 ∧ 0 < k ∧ k ≤ l.length := by omega
    have hmin : min (l.length : Int) 8 = (k : Int) := by omega
    have hkz : ((k : Int) == 0) = false := by rw [beq_eq_false_iff_ne]; omega
    have hkk : (l.take 8).length = k := by rw [List.length_take]; omega
    have hte : (l.take 8) = l.take k := by
      by_cases h8 : 8 ≤ l.length
      · rw [show k = 8 by omega]
      · rw [List.take_of_length_le (by omega), List.take_of_length_le (by omega)]
    have hTot : M.weighTot l = M.wTot k := by unfold M.weighTot; rw [hkk]
    have hLen : M.weighLen o l = max (M.wFold (M.mulT o 5) (l.take (k - 1)) 1) (M.wFold 0 (l.take k) 0) := by
      unfold M.weighLen
      simp only
      rw [hkk, hte, List.take_take, show min (k - 1) k = k - 1 by omega]
    rw [hTot, hLen]
    have HT := Lib.hid hT
    have HM := Lib.hid (fun W => fixMul_any o 5 ho (by decide) W)
    have hm5 : M.mulT o 5 < 18446744073709551616 := by rw [M.mulT_min]; omega
    generalize M.mulT o 5 = m at *
    have HV1 := Lib.hid (fun n => weighed_any m (.slice p (k - 1) cap) (l.take (k - 1)) 1 hm5 (by decide) (by rw [List.length_take]; omega) (w.drewN n) (hT.drewN n) ((hv.take (k - 1) (by omega)).drewN n))
    have HV2 : Hid (∀ n, Calls Tryz.prog 105 #[.int .u64 0, .slice p k cap, .int .i64 0] (w.drewN n) fun e w' => e = .returned (.int .u64 (M.wFold 0 (l.take k) 0)) ∧ w' = w.drewN n) := Lib.hid (fun n => weighed_any 0 (.slice p k cap) (l.take k) 0 (by decide) (by decide) (by rw [List.length_take]; omega) (w.drewN n) (hT.drewN n) ((hv.take k (by omega)).drewN n))
    have HW0 := Lib.hid (fun n => weight_any 0 (by decide) (by decide) (w.drewN n) (hT.drewN n))
    rw [show wtI 0 = 5 from rfl] at HW0
    have hf1 : M.wFold m (l.take (k - 1)) 1 < 18446744073709551616 := by have := wFold_small (l.take (k - 1)) m 1 (by omega); omega
    have hf2 : M.wFold 0 (l.take k) 0 < 18446744073709551616 := by have := wFold_small (l.take k) 0 0 (by omega); omega
    generalize M.wFold m (l.take (k - 1)) 1 = f1 at *
    generalize M.wFold 0 (l.take k) 0 = f2 at *
    obtain ⟨N, hN⟩ : ∃ N, l.length = N := ⟨_, rfl⟩
    rw [hN] at hmin hcap hlen hk8 ⊢
    clear hT hv hk hkk hte hTot hLen hl0 h0 hN
    go_enter Tryz.func72, Tryz.ntmps72
    go_wp2
    go_loop [4, 7, 16] (fun a _ i => ∃ j : Nat, j ≤ k ∧ i = .int .i64 (j : Int) ∧ a = .int .u64 (M.wTot j : Nat)) (fun _ _ i => k - (intOf i).toNat)
    case atStart => exact ⟨0, Nat.zero_le _, rfl, rfl⟩
    case round =>
      obtain ⟨j, hj, rfl, rfl⟩ := hrel
      by_cases hjk : j < k
      · obtain ⟨hs, hs30⟩ := wTot_succ ⟨j, by omega⟩
        simp only at hs hs30
        have hw5 := wt_le j
        have HW := Lib.hid (weight_any (j : Int) (by omega) (by omega) w HT.out)
        rw [wtI_nat] at HW
        have HA := Lib.hid (fun W => fixSum_any (M.wTot j) (M.wt j) (by omega) (by omega) W)
        rw [hs] at HA
        generalize M.wTot j = a at *
        generalize M.wt j = u at *
        obtain ⟨r, hr⟩ : ∃ r, M.wTot (j + 1) = r := ⟨_, rfl⟩
        have HR := Lib.hid hr
        rw [hr] at HA
        clear hs hr
        go_wp2_with (first
          | (go_at_call 104; (with_reducible refine HW.out.mono ?_); rintro e w1 ⟨rfl, rfl⟩)
          | (go_at_call 103; (with_reducible refine (HA.out _).mono ?_); rintro e w1 ⟨rfl, rfl⟩))
        refine ⟨⟨j + 1, by omega, by go_num, by rw [HR.out]⟩, ?_⟩
        simp [intOf]; omega
      · obtain rfl : j = k := by omega
        obtain ⟨T, hT⟩ : ∃ T, M.wTot j = T := ⟨_, rfl⟩
        rw [hT]
        have HTT := Lib.hid hT
        have hj1 : (j : Int) - 1 = ((j - 1 : Nat) : Int) := by omega
        clear hT
        go_upto_region 9 with fail
        go_quiet ((first
          | (go_at_call 104; exact Calls.quiet_of_same (HW0.out _))
          | (go_at_call 67; exact Calls.quiet_of_same ((HM.out _).mono fun e w' hh => ⟨hh.1, hh.2.symm⟩))
          | (go_at_call 105; exact Calls.quiet_of_same (HV1.out _))))
        go_wp2_with (go_at_call 105; (with_reducible refine (HV2.out _).mono ?_); rintro e w1 ⟨rfl, rfl⟩)
        go_ret2
        exact ⟨M.ret_ints (by rw [HTT.out]) (by omega), _, rfl⟩
end Go.Proofs.YtbiglbclifbmhaaGreatDoor
