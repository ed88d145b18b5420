/-
  The law SumZeros, walked; sums of rows of texts that the call makes.
-/
import Derived.Test.YtcdhllajdpalaaaGreatDoorBegunM
import Derived.Test.YtcdhllajdpalaaaGreatDoorSumM
import Derived.Test.YtcdhllajdpalaaaGreatDoorSumMath2
import Derived.Test.YtcdhllajdpalaaaGreatDoorText
import Derived.Test.YtcdhllajdpalaaaGreatDoorOpA
import Derived.OwnWalk
namespace Go.Proofs.YtcdhllajdpalaaaGreatDoor
open Go.ChangeShapes Go.WideShapes Go.ChangeAt Go.RowKit
set_option linter.unusedVariables false

theorem tmod_lim (n m : Int) (hm : 0 < m) : -m < n.tmod m ∧ n.tmod m < m := by
  by_cases h : 0 ≤ n
  · rw [Int.tmod_eq_emod_of_nonneg h]
    have := Int.emod_nonneg n (show m ≠ 0 by omega)
    have := Int.emod_lt_of_pos n hm
    omega
  · obtain ⟨k, rfl⟩ : ∃ k, n = -k := ⟨-n, by omega⟩
    rw [Int.neg_tmod, Int.tmod_eq_emod_of_nonneg (by omega)]
    have := Int.emod_nonneg k (show m ≠ 0 by omega)
    have := Int.emod_lt_of_pos k hm
    omega

/-- A row of noughts that is made here; as a text. -/
theorem wp_zeros {ops : Array Oper} {rest : List Oper} {o : Oper} {a : Act} {Q : Exit → Act → World → Prop} (hgd : o.guard = none) (l c : Operand) (ho : o.op = Op.makeSlice 36 l c)
    (w : World) (kl kc : IntKind) (L : Int) (n : Nat) (hl : a.eval l = .int kl L) (hc : a.eval c = .int kc L) (hL : L = (n : Int)) (hn : n ≤ 1000000)
    (h : ∀ w' H, H = w.heap.size → Below w.heap.size w w' → (convert 36 9 (.slice (some ⟨H, 0, none⟩) n n)).run Tryz.prog w' = .ok (.string (str (List.replicate n 0))) w' → wpList Tryz.prog ops Q rest (a.put o.dst (.slice (some ⟨H, 0, none⟩) n n)) w') :
    wpList Tryz.prog ops Q (o :: rest) a w := by
  obtain ⟨i0, hi, hz0, hz1, hz2⟩ := info_parts infoU8
  refine wpList_make_full w hgd l c 36 ho w.heap.size 5 i0 (.int .u8 0) 1 Tryz.underlying36 hi hz0 hz1 kl kc L L n hl hc hL hL (by rw [hz2]; omega) (by unfold maxLen; omega) (Nat.le_refl _) (fun w' hrow hg => ?_)
  refine h w' w.heap.size rfl ⟨hg.os, hg.tape, hg.output, hg.size, fun k hk => hg.block k hk (by simp)⟩ ?_
  have hlen : (List.replicate n (0 : UInt8)).length = n := List.length_replicate
  have hc := run_convert_bytes_back (P := Tryz.prog) w' 36 9 5 ⟨w.heap.size, 0, none⟩ n (List.replicate n 0) Tryz.underlying36 Tryz.underlying5 Tryz.underlying9 (fun j hj => by
    have hj' : j < n := by rwa [hlen] at hj
    rw [show (⟨w.heap.size, 0, none⟩ : Addr).add j = ⟨w.heap.size, j, none⟩ from by simp [Addr.add]; exact fun h => h.symm]
    rw [hrow.cellAt j (by omega)]
    have e1 : j % 1 = 0 := Nat.mod_one j
    simp [madeCells, Value.cells, hj', e1])
  rw [hlen] at hc
  exact hc

/-- A row of texts that was just made. -/
theorem strs_new (w : World) (ss : List ByteArray) (hne : ss ≠ []) (hn : ss.length ≤ 1000) (hs : ∀ s ∈ ss, s.size ≤ maxLen) (ht : (M.joined ss).length ≤ 17179869184) :
    StrsAt (w.alloc (.cells (ss.map Value.string).toArray 9)) (.slice (some ⟨w.heap.size, 0, none⟩) ss.length ss.length) ss := by
  refine ⟨.inr ⟨⟨w.heap.size, 0, none⟩, ss.length, rfl, fun i hi => ?_⟩, by omega, hs, ht⟩
  have hadd : (⟨w.heap.size, 0, none⟩ : Addr).add i = ⟨w.heap.size, 0 + i, none⟩ := by unfold Addr.add; split <;> simp_all
  rw [hadd, cell_of_row _ _ _ _ _ _ (heap_alloc_new w _)]
  simp [hi]

theorem sum1_any (w : World) (H : Nat) (hH : H = w.heap.size) (l : List UInt8) (x : Nat) (hl : l.length ≤ 1000000) (hx : M.sum16 l = x) :
    Calls Tryz.prog 28 #[.slice (some ⟨H, 0, none⟩) 1 1] (w.alloc (.cells #[.string (str l)] 9)) fun e w' => e = .returned (.int .i64 x) ∧ w.alloc (.cells #[.string (str l)] 9) = w' := by
  subst hH
  have hj : M.joined [str l] = l := by simp [M.joined, str]
  have h := sumOf_at (strs_new w [str l] (by simp) (by simp) (by intro s hs; simp at hs; subst hs; rw [str_size]; unfold maxLen; omega) (by rw [hj]; omega))
  rw [hj, hx] at h
  exact h
theorem sum2_any (w : World) (H : Nat) (hH : H = w.heap.size) (l m : List UInt8) (x : Nat) (hl : l.length ≤ 1000000) (hm : m.length ≤ 1000000) (hx : M.sum16 (l ++ m) = x) :
    Calls Tryz.prog 28 #[.slice (some ⟨H, 0, none⟩) 2 2] (w.alloc (.cells #[.string (str l), .string (str m)] 9)) fun e w' => e = .returned (.int .i64 x) ∧ w.alloc (.cells #[.string (str l), .string (str m)] 9) = w' := by
  subst hH
  have hj : M.joined [str l, str m] = l ++ m := by simp [M.joined, str]
  have h := sumOf_at (strs_new w [str l, str m] (by simp) (by simp) (by intro s hs; simp at hs; rcases hs with rfl | rfl <;> (rw [str_size]; unfold maxLen; omega)) (by rw [hj]; simp; omega))
  rw [hj, hx] at h
  exact h
theorem sum3_any (w : World) (H : Nat) (hH : H = w.heap.size) (l m r : List UInt8) (x : Nat) (hl : l.length ≤ 1000000) (hm : m.length ≤ 1000000) (hr : r.length ≤ 1000000) (hx : M.sum16 (l ++ (m ++ r)) = x) :
    Calls Tryz.prog 28 #[.slice (some ⟨H, 0, none⟩) 3 3] (w.alloc (.cells #[.string (str l), .string (str m), .string (str r)] 9)) fun e w' => e = .returned (.int .i64 x) ∧ w.alloc (.cells #[.string (str l), .string (str m), .string (str r)] 9) = w' := by
  subst hH
  have hj : M.joined [str l, str m, str r] = l ++ (m ++ r) := by simp [M.joined, str]
  have h := sumOf_at (strs_new w [str l, str m, str r] (by simp) (by simp) (by intro s hs; simp at hs; rcases hs with rfl | rfl | rfl <;> (rw [str_size]; unfold maxLen; omega)) (by rw [hj]; simp; omega))
  rw [hj, hx] at h
  exact h
theorem textN_any (s : ByteArray) (n : Nat) (K : Int) (l : List UInt8) (hK : K = (n : Int)) (hn : n ≤ 9223372036854775807) (hs : s.size ≤ maxLen) (hl : s.data.toList.take n = l) (w : World) :
    Calls Tryz.prog 6 #[.string s, .int .i64 K] w fun e w' => e = .returned (.string (str l)) ∧ w = w' := by
  subst hK
  have h := text_any s n hn hs w
  have e : s.extract 0 (min s.size n) = str l := by
    apply ByteArray.ext
    rw [← hl]
    simp [str, ByteArray.data_extract]
    rw [← Array.toList_inj]
    simp
    omega
  rw [e] at h
  exact h
theorem sum_lim (l : List UInt8) : M.sum16 l ≤ 65535 := by unfold M.sum16; omega

end Go.Proofs.YtcdhllajdpalaaaGreatDoor
