/-
  The laws IvalOne, IvalAll, walked.
-/
import Derived.Test.YtnffdacajdjeoaaGreatDoorIvalC
import Derived.Test.YtnffdacajdjeoaaGreatDoorBegun8
namespace Go.Proofs.YtnffdacajdjeoaaGreatDoor
open Go.ChangeShapes Go.WideShapes Go.ChangeAt Go.RowKit
set_option linter.unusedVariables false
set_option linter.unusedSimpArgs false

/-- A slice of one number that is made in place. -/
theorem one_newU (w : World) (n : Nat) (hn : n < 18446744073709551616) : U64At (w.alloc (.cells #[.int .u64 n] 41)) (.slice (some ⟨w.heap.size, 0, none⟩) 1 1) [n] := by
  refine ⟨⟨_, 1, rfl, by simp, by decide, fun i hi => ⟨w.heap.size, 0, rfl, by simp, ?_⟩⟩, by simp, fun i => ?_⟩
  · rw [cell_of_row _ _ _ _ _ _ (heap_alloc_new w _)]
    have : i = 0 := by simp at hi; omega
    subst this; rfl
  · rcases i with _ | i
    · exact hn
    · simp
set_option maxHeartbeats 2000000 in
set_option maxRecDepth 100000 in
theorem ivalOne_walk (o n : Nat) (ho : o < 18446744073709551616) (hn : n < 18446744073709551616) (w : World) (hT : TabW w) :
    Calls Tryz.prog 16 #[.int .u64 o, .int .u64 n] w fun e w' => e = .returned (.bool true) ∧ Below w.heap.size w w' := by
  have HBG : Hid (∀ W, Below w.heap.size w W → Calls Tryz.prog 18 #[] W fun e w' => e = .returned (.bool true) ∧ Below W.heap.size W w') := Lib.hid (fun W hb => begun8_any W (hT.below hb))
  obtain ⟨o2, ho2⟩ : ∃ q : Nat, o % 1125899906842624 = q := ⟨_, rfl⟩
  obtain ⟨n2, hn2⟩ : ∃ q : Nat, n % 1125899906842624 = q := ⟨_, rfl⟩
  have ho3 : o2 < 1125899906842624 := by omega
  have hn3 : n2 < 1125899906842624 := by omega
  have eo : (o : Int) % 1125899906842624 = (o2 : Int) := by omega
  have en : (n : Int) % 1125899906842624 = (n2 : Int) := by omega
  obtain ⟨m1, m2⟩ := M.one o2 n2 ho3 hn3
  obtain ⟨m, hm⟩ : ∃ m, max o2 n2 = m := ⟨_, rfl⟩
  have em : max (o2 : Int) (n2 : Int) = (m : Int) := by omega
  have hm3 : m < 1125899906842624 := by omega
  rw [hm] at m1 m2
  have HR : Hid (∀ W, Below w.heap.size w W → Calls Tryz.prog 33 #[.int .u64 o2, .slice (some ⟨W.heap.size, 0, none⟩) 1 1] (W.alloc (.cells #[.int .u64 n2] 41)) fun e w' => e = .returned (.int .u64 (if m = 0 then 4294967296 else min 4294967296 (4294967296 / m) : Nat)) ∧ Below W.heap.size W w') := Lib.hid (fun W hb => by
    have h := rate_any o2 _ [n2] (by omega) _ ((hT.below hb).below (bel_alloc W (.cells #[.int .u64 n2] 41))) (one_newU W n2 (by omega))
    rw [m2] at h
    exact h.mono fun e w' ⟨h1, k, h2⟩ => ⟨h1, by rw [h2]; exact bel_trans (bel_alloc W _) (bel_drewN _ k)⟩)
  have HM : Hid (∀ W, Below w.heap.size w W → Calls Tryz.prog 35 #[.int .u64 o2, .slice (some ⟨W.heap.size, 0, none⟩) 1 1] (W.alloc (.cells #[.int .u64 n2] 41)) fun e w' => e = .returned (.int .u64 m) ∧ Below W.heap.size W w') := Lib.hid (fun W hb => by
    have h := mean_any o2 _ [n2] (by omega) _ ((hT.below hb).below (bel_alloc W (.cells #[.int .u64 n2] 41))) (one_newU W n2 (by omega))
    rw [m1] at h
    exact h.mono fun e w' ⟨h1, k, h2⟩ => ⟨h1, by rw [h2]; exact bel_trans (bel_alloc W _) (bel_drewN _ k)⟩)
  clear m1 m2 hT hm ho2 hn2
  by_cases h0 : m = 0
  · rw [if_pos h0] at HR
    subst h0
    have HR2 : Hid (∀ W, Below w.heap.size w W → Calls Tryz.prog 33 #[.int .u64 o2, .slice (some ⟨W.heap.size, 0, none⟩) 1 1] (W.alloc (.cells #[.int .u64 n2] 41)) fun e w' => e = .returned (.int .u64 4294967296) ∧ Below W.heap.size W w') := HR
    have HM2 : Hid (∀ W, Below w.heap.size w W → Calls Tryz.prog 35 #[.int .u64 o2, .slice (some ⟨W.heap.size, 0, none⟩) 1 1] (W.alloc (.cells #[.int .u64 n2] 41)) fun e w' => e = .returned (.int .u64 0) ∧ Below W.heap.size W w') := HM
    clear HR HM
    go_enter Tryz.func16, Tryz.ntmps16
    go_wp2_with (first
      | (go_at_call 18; refine (HBG.out _ (by first | exact Below.refl _ _ | exact bel_alloc _ _ | exact bel_trans (bel_alloc _ _) (bel_alloc _ _))).mono ?_; rintro e w0 ⟨rfl, hb0⟩)
      | (go_at_call 33; (with_reducible refine (HR2.out _ hb0).mono ?_); rintro e w1 ⟨rfl, hb1⟩)
      | (go_at_call 35; (with_reducible refine (HM2.out _ (bel_trans hb0 hb1)).mono ?_); rintro e w2 ⟨rfl, hb2⟩))
    go_ret
    exact ⟨rfl, bel_trans (bel_trans hb0 hb1) hb2⟩
  · rw [if_neg h0] at HR
    obtain ⟨q, hq⟩ : ∃ q, 4294967296 / m = q := ⟨_, rfl⟩
    have eq1 : (4294967296 : Int) / (m : Int) = (q : Int) := by rw [← hq]; simp
    have hq2 : q ≤ 4294967296 := by rw [← hq]; exact Nat.div_le_self _ _
    have hz : ((m : Int) == 0) = false := by rw [beq_eq_false_iff_ne]; omega
    have emq : min (4294967296 : Int) (q : Int) = (q : Int) := by omega
    rw [hq, show min 4294967296 q = q by omega] at HR
    clear hq
    go_enter Tryz.func16, Tryz.ntmps16
    go_wp2_with (first
      | (go_at_call 18; refine (HBG.out _ (by first | exact Below.refl _ _ | exact bel_alloc _ _ | exact bel_trans (bel_alloc _ _) (bel_alloc _ _))).mono ?_; rintro e w0 ⟨rfl, hb0⟩)
      | (go_at_call 33; (with_reducible refine (HR.out _ hb0).mono ?_); rintro e w1 ⟨rfl, hb1⟩)
      | (go_at_call 35; (with_reducible refine (HM.out _ (bel_trans hb0 hb1)).mono ?_); rintro e w2 ⟨rfl, hb2⟩))
    go_ret
    exact ⟨rfl, bel_trans (bel_trans hb0 hb1) hb2⟩
end Go.Proofs.YtnffdacajdjeoaaGreatDoor
