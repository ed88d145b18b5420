/-
  The law SumZeros, walked; sums of rows of texts that the call makes.
-/
import Derived.Test.YtdlpapchjjbplaaGreatDoorBegun
import Derived.Test.YtdlpapchjjbplaaGreatDoorSumB
import Derived.Test.YtdlpapchjjbplaaGreatDoorSumMath2
import Derived.Test.YtdlpapchjjbplaaGreatDoorText
import Derived.Test.YtdlpapchjjbplaaGreatDoorOptB
import Derived.OwnWalk
namespace Go.Proofs.YtdlpapchjjbplaaGreatDoor
open Go.ChangeShapes Go.WideShapes Go.ChangeAt Go.RowKit
set_option linter.unusedVariables false

theorem tmod_lim (n m : Int) (hm : 0 < m) : -m < n.tmod m ∧ n.tmod m < m := by
  by_cases h : 0 ≤ n
  · rw [Int.tmod_eq_emod_of_nonneg h]
    have := Int.emod_nonneg n (show m ≠ 0 by omega)
    have := Int.emod_lt_of_pos n hm
    omega
  · obtain ⟨k, rfl⟩ : ∃ k, n = -k := ⟨-n, by omega⟩
    rw [Int.neg_tmod, Int.tmod_eq_emod_of_nonneg (by omega)]
    have := Int.emod_nonneg k (show m ≠ 0 by omega)
    have := Int.emod_lt_of_pos k hm
    omega

/-- A row of noughts that is made here; as a text. -/
theorem wp_zeros {ops : Array Oper} {rest : List Oper} {o : Oper} {a : Act} {Q : Exit → Act → World → Prop} (hgd : o.guard = none) (l c : Operand) (ho : o.op = Op.makeSlice 34 l c)
    (w : World) (kl kc : IntKind) (L : Int) (n : Nat) (hl : a.eval l = .int kl L) (hc : a.eval c = .int kc L) (hL : L = (n : Int)) (hn : n ≤ 1000000)
    (h : ∀ w' H, H = w.heap.size → Below w.heap.size w w' → (convert 34 9 (.slice (some ⟨H, 0, none⟩) n n)).run Tryz.prog w' = .ok (.string (str (List.replicate n 0))) w' → wpList Tryz.prog ops Q rest (a.put o.dst (.slice (some ⟨H, 0, none⟩) n n)) w') :
    wpList Tryz.prog ops Q (o :: rest) a w := by
  obtain ⟨i0, hi, hz0, hz1, hz2⟩ := info_parts infoU8
  refine wpList_make_full w hgd l c 34 ho w.heap.size 5 i0 (.int .u8 0) 1 Tryz.underlying34 hi hz0 hz1 kl kc L L n hl hc hL hL (by rw [hz2]; omega) (by unfold maxLen; omega) (Nat.le_refl _) (fun w' hrow hg => ?_)
  refine h w' w.heap.size rfl ⟨hg.os, hg.tape, hg.output, hg.size, fun k hk => hg.block k hk (by simp)⟩ ?_
  have hlen : (List.replicate n (0 : UInt8)).length = n := List.length_replicate
  have hc := run_convert_bytes_back (P := Tryz.prog) w' 34 9 5 ⟨w.heap.size, 0, none⟩ n (List.replicate n 0) Tryz.underlying34 Tryz.underlying5 Tryz.underlying9 (fun j hj => by
    have hj' : j < n := by rwa [hlen] at hj
    rw [show (⟨w.heap.size, 0, none⟩ : Addr).add j = ⟨w.heap.size, j, none⟩ from by simp [Addr.add]; exact fun h => h.symm]
    rw [hrow.cellAt j (by omega)]
    have e1 : j % 1 = 0 := Nat.mod_one j
    simp [madeCells, Value.cells, hj', e1])
  rw [hlen] at hc
  exact hc

/-- A row of texts that was just made. -/
theorem strs_new (w : World) (ss : List ByteArray) (hne : ss ≠ []) (hn : ss.length ≤ 1000) (hs : ∀ s ∈ ss, s.size ≤ maxLen) (ht : (M.joined ss).length ≤ 17179869184) :
    StrsAt (w.alloc (.cells (ss.map Value.string).toArray 9)) (.slice (some ⟨w.heap.size, 0, none⟩) ss.length ss.length) ss := by
  refine ⟨.inr ⟨⟨w.heap.size, 0, none⟩, ss.length, rfl, fun i hi => ?_⟩, by omega, hs, ht⟩
  have hadd : (⟨w.heap.size, 0, none⟩ : Addr).add i = ⟨w.heap.size, 0 + i, none⟩ := by unfold Addr.add; split <;> simp_all
  rw [hadd, cell_of_row _ _ _ _ _ _ (heap_alloc_new w _)]
  simp [hi]

theorem sum1_any (w : World) (H : Nat) (hH : H = w.heap.size) (l : List UInt8) (x : Nat) (hl : l.length ≤ 1000000) (hx : M.sum16 l = x) :
    Calls Tryz.prog 19 #[.slice (some ⟨H, 0, none⟩) 1 1] (w.alloc (.cells #[.string (str l)] 9)) fun e w' => e = .returned (.int .i64 x) ∧ w.alloc (.cells #[.string (str l)] 9) = w' := by
  subst hH
  have hj : M.joined [str l] = l := by simp [M.joined, str]
  have h := sumOf_at (strs_new w [str l] (by simp) (by simp) (by intro s hs; simp at hs; subst hs; rw [str_size]; unfold maxLen; omega) (by rw [hj]; omega))
  rw [hj, hx] at h
  exact h
theorem sum2_any (w : World) (H : Nat) (hH : H = w.heap.size) (l m : List UInt8) (x : Nat) (hl : l.length ≤ 1000000) (hm : m.length ≤ 1000000) (hx : M.sum16 (l ++ m) = x) :
    Calls Tryz.prog 19 #[.slice (some ⟨H, 0, none⟩) 2 2] (w.alloc (.cells #[.string (str l), .string (str m)] 9)) fun e w' => e = .returned (.int .i64 x) ∧ w.alloc (.cells #[.string (str l), .string (str m)] 9) = w' := by
  subst hH
  have hj : M.joined [str l, str m] = l ++ m := by simp [M.joined, str]
  have h := sumOf_at (strs_new w [str l, str m] (by simp) (by simp) (by intro s hs; simp at hs; rcases hs with rfl | rfl <;> (rw [str_size]; unfold maxLen; omega)) (by rw [hj]; simp; omega))
  rw [hj, hx] at h
  exact h
theorem sum3_any (w : World) (H : Nat) (hH : H = w.heap.size) (l m r : List UInt8) (x : Nat) (hl : l.length ≤ 1000000) (hm : m.length ≤ 1000000) (hr : r.length ≤ 1000000) (hx : M.sum16 (l ++ (m ++ r)) = x) :
    Calls Tryz.prog 19 #[.slice (some ⟨H, 0, none⟩) 3 3] (w.alloc (.cells #[.string (str l), .string (str m), .string (str r)] 9)) fun e w' => e = .returned (.int .i64 x) ∧ w.alloc (.cells #[.string (str l), .string (str m), .string (str r)] 9) = w' := by
  subst hH
  have hj : M.joined [str l, str m, str r] = l ++ (m ++ r) := by simp [M.joined, str]
  have h := sumOf_at (strs_new w [str l, str m, str r] (by simp) (by simp) (by intro s hs; simp at hs; rcases hs with rfl | rfl | rfl <;> (rw [str_size]; unfold maxLen; omega)) (by rw [hj]; simp; omega))
  rw [hj, hx] at h
  exact h
theorem textN_any (s : ByteArray) (n : Nat) (K : Int) (l : List UInt8) (hK : K = (n : Int)) (hn : n ≤ 9223372036854775807) (hs : s.size ≤ maxLen) (hl : s.data.toList.take n = l) (w : World) :
    Calls Tryz.prog 16 #[.string s, .int .i64 K] w fun e w' => e = .returned (.string (str l)) ∧ w = w' := by
  subst hK
  have h := text_any s n hn hs w
  have e : s.extract 0 (min s.size n) = str l := by
    apply ByteArray.ext
    rw [← hl]
    simp [str, ByteArray.data_extract]
    rw [← Array.toList_inj]
    simp
    omega
  rw [e] at h
  exact h
theorem sum_lim (l : List UInt8) : M.sum16 l ≤ 65535 := by unfold M.sum16; omega

set_option maxHeartbeats 4000000 in
set_option maxRecDepth 100000 in
theorem sumZeros_walk (s : ByteArray) (n : Int) (hs : s.size ≤ maxLen) (h1 : -9223372036854775808 ≤ n) (h2 : n ≤ 9223372036854775807) (w : World) :
    Calls Tryz.prog 12 #[.string s, .int .i64 n] w fun e w' => e = .returned (.bool true) ∧ Below w.heap.size w w' := by
  obtain ⟨m1, m2⟩ := tmod_lim n 20 (by decide)
  obtain ⟨k, hk⟩ : ∃ k, n.tmod 20 = k := ⟨_, rfl⟩
  rw [hk] at m1 m2
  obtain ⟨m3, m4⟩ := tmod_lim (k + 20) 20 (by decide)
  have m5 : 0 ≤ (k + 20).tmod 20 := Int.tmod_nonneg _ (by omega)
  obtain ⟨j, hj⟩ : ∃ j, (k + 20).tmod 20 = j := ⟨_, rfl⟩
  rw [hj] at m3 m4 m5
  obtain ⟨N, hN⟩ : ∃ N : Nat, N = j.toNat := ⟨_, rfl⟩
  have hN20 : N ≤ 20 := by omega
  have hjN : j = (N : Int) := by omega
  obtain ⟨l, hl, hll⟩ : ∃ l, s.data.toList.take 200 = l ∧ l.length ≤ 200 := ⟨_, rfl, by simp; omega⟩
  have HT := Lib.hid (fun w => textN_any s 200 200 l rfl (by omega) hs hl w)
  have hZ : (List.replicate N (0 : UInt8)).length ≤ 20 := by simpa using hN20
  obtain ⟨x, hx⟩ : ∃ x, M.sum16 l = x := ⟨_, rfl⟩
  have HS1 := Lib.hid (fun w H hH => sum1_any w H hH l x (by omega) hx)
  have HS2 := Lib.hid (fun w H hH => sum2_any w H hH l (List.replicate N 0) x (by omega) (by omega) (by rw [M.sum_zeros_end, hx]))
  have HS3 := Lib.hid (fun w H hH => sum3_any w H hH (List.replicate N 0) (List.replicate N 0) l x (by omega) (by omega) (by omega) (by rw [M.sum_zeros_front, hx]))
  have HS4 := Lib.hid (fun w H hH => sum1_any w H hH (List.replicate N 0 ++ (List.replicate N 0 ++ l)) x (by simp; omega) (by rw [M.sum_zeros_front, hx]))
  obtain ⟨bl, hbl⟩ : ∃ b, str l = b := ⟨_, rfl⟩
  obtain ⟨bz, hbz⟩ : ∃ b, str (List.replicate N (0 : UInt8)) = b := ⟨_, rfl⟩
  obtain ⟨bq, hbq⟩ : ∃ b, str (List.replicate N 0 ++ (List.replicate N 0 ++ l)) = b := ⟨_, rfl⟩
  have hcat : bz ++ bz ++ bl = bq := by rw [← hbz, ← hbl, ← hbq, str_append, str_append, List.append_assoc]
  have hz1 : bz.size ≤ 20 := by rw [← hbz, str_size]; exact hZ
  have hz2 : bl.size ≤ 200 := by rw [← hbl, str_size]; exact hll
  have hz3 : (bz ++ bz).size ≤ 40 := by rw [ByteArray.size_append]; omega
  have HBZ := Lib.hid hbz
  have HJN := Lib.hid hjN
  rw [hbl] at HT HS1 HS2 HS3
  rw [hbz] at HS2 HS3
  rw [hbq] at HS4
  clear hbl hbz hbq hx hZ hl hll hjN hN
  go_enter Tryz.func12, Tryz.ntmps12
  go_wp2_with (first
    | (go_at_call 15; refine (begun_any _).mono ?_; rintro e w0 ⟨rfl, hb0⟩)
    | (go_at_call 16; (with_reducible refine (HT.out _).mono ?_); rintro e w1 ⟨rfl, rfl⟩)
    | (at_make; refine wp_zeros rfl _ _ rfl _ _ _ _ N rfl rfl HJN.out (by omega) ?_; rintro w2 H rfl hb2 hcv; rw [HBZ.out] at hcv)
    | (go_at_call 19; (first | (with_reducible refine (HS1.out _ _ (by first | rfl | simp)).mono ?_) | (with_reducible refine (HS2.out _ _ (by first | rfl | simp)).mono ?_) | (with_reducible refine (HS3.out _ _ (by first | rfl | simp)).mono ?_) | (with_reducible refine (HS4.out _ _ (by first | rfl | simp)).mono ?_)); rintro e w1 ⟨rfl, rfl⟩))
  all_goals go_ret
  all_goals exact ⟨rfl, bel_trans (bel_trans hb0 hb2) (bel_trans (bel_alloc _ _) (bel_trans (bel_alloc _ _) (bel_trans (bel_alloc _ _) (bel_alloc _ _))))⟩
end Go.Proofs.YtdlpapchjjbplaaGreatDoor
