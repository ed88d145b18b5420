/-
  What head's reader takes.
-/
import Derived.Test.YtdlpapchjjbplaaGreatDoorHeadF
import Derived.Lib.Strings
namespace Go.Proofs.YtdlpapchjjbplaaGreatDoor
open Go.ChangeShapes Go.WideShapes Go.ChangeAt Go.RowKit
set_option linter.unusedVariables false

/-- Bytes as a number, the highest first. -/
def beNum (l : List UInt8) : Nat := l.foldl (fun n b => n * 256 + b.toNat) 0
theorem beNum_snoc (l : List UInt8) (b : UInt8) : beNum (l ++ [b]) = beNum l * 256 + b.toNat := by simp [beNum]
theorem foldl_lt (l : List UInt8) : ∀ n m, n < m → l.foldl (fun n b => n * 256 + b.toNat) n < m * 256 ^ l.length := by
  induction l with
  | nil => intro n m h; simpa using h
  | cons b l ih =>
    intro n m h
    have hb : b.toNat < 256 := b.toNat_lt
    have := ih (n * 256 + b.toNat) (m * 256) (by omega)
    rw [List.length_cons, Nat.pow_succ, Nat.mul_comm (256 ^ l.length), ← Nat.mul_assoc]
    exact this
theorem beNum_lt (l : List UInt8) : beNum l < 256 ^ l.length := by
  have := foldl_lt l 0 1 (by decide)
  rwa [Nat.one_mul] at this
theorem beNum_lt8 {l : List UInt8} (k : Nat) (h : l.length ≤ k) : beNum l < 256 ^ k := Nat.lt_of_lt_of_le (beNum_lt l) (Nat.pow_le_pow_right (by decide) h)

theorem or_byte (n : Nat) (b : UInt8) (h : n < 72057594037927936) : bits .or .u64 ((n : Int) * 256) (b.toNat : Int) = ((n * 256 + b.toNat : Nat) : Int) := by
  have hb : b.toNat < 256 := b.toNat_lt
  rw [show ((n : Int) * 256) = ((n * 256 : Nat) : Int) by simp, bits_or_u64_nat _ _ (by omega) (by omega), nat_join 8 _ _ (by omega) (by omega)]

theorem str_drop (l : List UInt8) (k : Nat) : (str l).extract k (str l).size = str (l.drop k) := by
  apply ByteArray.ext
  apply Array.toList_inj.1
  rw [Lib.extract_data]
  show List.take ((str l).size - k) (List.drop k l) = List.drop k l
  exact List.take_of_length_le (by rw [List.length_drop]; exact Nat.le_refl _)

set_option maxRecDepth 100000 in
theorem take_any (R : Nat) (l : List UInt8) (k : Nat) (w : World) (hk : k ≤ l.length) (hk8 : k ≤ 8) (hl : l.length ≤ 9223372036854775807) (hc : w.cell? ⟨R, 0, none⟩ = some (.string (str l))) (hf : w.frozen? ⟨R, 0, none⟩ = false) :
    Calls Tryz.prog 89 #[.pointer (some ⟨R, 0, none⟩), .int .i64 k] w fun e w' => e = .returned (.int .u64 (beNum (l.take k))) ∧ w' = w.setCell ⟨R, 0, none⟩ (.string (str (l.drop k))) := by
  have hsd := str_drop l k
  have hss : (str l).size = l.length := rfl
  have hgi : ∀ i, i < k → i < (str l).size := fun i hi => by rw [hss]; omega
  obtain ⟨s, hs⟩ : ∃ s, str l = s := ⟨_, rfl⟩
  have hbt : ∀ i (h : i < s.size), (l.take (i + 1)) = l.take i ++ [s[i]] := by
    subst hs
    intro i h
    exact M.bytes_take (str l) i h
  rw [hs] at hc hsd hss hgi
  have hsl : s.size ≤ 9223372036854775807 := by omega
  have hks : k ≤ s.size := by omega
  have HSD := Lib.hid hsd; have HSS := Lib.hid hss; have HGI := Lib.hid hgi; have HBT := Lib.hid hbt
  clear hs hsd hss hgi hbt
  go_enter Tryz.func89, Tryz.ntmps89
  go_wp2
  go_loop [5, 8] (fun u i => ∃ j : Nat, j ≤ k ∧ u = .int .u64 (beNum (l.take j)) ∧ i = .int .i64 j) (fun _ i => k - (intOf i).toNat)
  case atStart => exact ⟨0, Nat.zero_le _, rfl, rfl⟩
  case round =>
    obtain ⟨j, hj, rfl, rfl⟩ := hrel
    by_cases hjk : j < k
    · have hjs := HGI.out j hjk
      have hb := beNum_snoc (l.take j) s[j]
      have hb2 : (s[j]).toNat < 256 := (s[j]).toNat_lt
      rw [← HBT.out j hjs] at hb
      have hlt := beNum_lt8 (l := l.take j) 7 (by rw [List.length_take]; omega)
      have hor := or_byte (beNum (l.take j)) s[j] (by omega)
      generalize beNum (l.take j) = n at *
      have HB := Lib.hid hb; clear hb
      go_wp2
      go_round
      case rel => exact ⟨j + 1, by omega, by rw [HB.out]; simp, by go_num⟩
      case measure => simp [intOf]; omega
    · obtain rfl : j = k := by omega
      generalize hbn : beNum (l.take j) = n at *
      have HBN := Lib.hid hbn; clear hbn
      go_wp2
      go_ret
      exact ⟨M.ret_int (by rw [HBN.out]), by rw [← HSD.out]⟩

/-- The reader's bytes, at block R. -/
def RdAt (l : List UInt8) (R : Nat) (w : World) : Prop := w.heap[R]? = some (.cells #[.string (str l)] 88)
theorem RdAt.cell {l : List UInt8} {R : Nat} {w : World} (h : RdAt l R w) : w.cell? ⟨R, 0, none⟩ = some (.string (str l)) := by
  rw [cell_of_row w R 0 _ _ _ h]; rfl
theorem RdAt.free {l : List UInt8} {R : Nat} {w : World} (h : RdAt l R w) : w.frozen? ⟨R, 0, none⟩ = false := frozen_of_row w R 0 _ _ h
theorem RdAt.lt {l : List UInt8} {R : Nat} {w : World} (h : RdAt l R w) : R < w.heap.size := by
  rcases Nat.lt_or_ge R w.heap.size with hlt | hge
  · exact hlt
  · unfold RdAt at h; rw [Array.getElem?_eq_none hge] at h; cases h
theorem RdAt.set {l : List UInt8} {R : Nat} {w : World} (h : RdAt l R w) (l2 : List UInt8) : RdAt l2 R (w.setCell ⟨R, 0, none⟩ (.string (str l2))) := by
  unfold RdAt; rw [heap_setCell_same w R 0 _ _ _ h]; rfl
theorem RdAt.other {l : List UInt8} {R : Nat} {w w' : World} {row : Option Nat} (h : RdAt l R w) (hg : w.grownBy w' row) (hne : some R ≠ row) : RdAt l R w' := by
  unfold RdAt; rw [hg.block R h.lt hne]; exact h

theorem RdAt.alloc {l : List UInt8} {R : Nat} {w : World} (h : RdAt l R w) (o : Obj) : RdAt l R (w.alloc o) := h.other (World.grownBy_alloc w o none) (by simp)
theorem RdAt.drew {l : List UInt8} {R : Nat} {w : World} (h : RdAt l R w) : RdAt l R w.drew := h

theorem grown_set (w : World) (R i : Nat) (v : Value) : w.grownBy (w.setCell ⟨R, i, none⟩ v) (some R) :=
  ⟨rfl, rfl, rfl, by simp [World.setCell], fun k _ hk => heap_setCell_other w ⟨R, i, none⟩ k v (fun e => hk (by rw [e]))⟩

theorem take_rd (R : Nat) (l : List UInt8) (k : Nat) (w : World) (hk : k ≤ l.length) (hk8 : k ≤ 8) (hl : l.length ≤ 9223372036854775807) (hr : RdAt l R w) :
    Calls Tryz.prog 89 #[.pointer (some ⟨R, 0, none⟩), .int .i64 k] w fun e w' => e = .returned (.int .u64 (beNum (l.take k))) ∧ RdAt (l.drop k) R w' ∧ w.grownBy w' (some R) :=
  (take_any R l k w hk hk8 hl hr.cell hr.free).mono fun e w' ⟨he, hw⟩ => by subst hw; exact ⟨he, hr.set _, grown_set _ _ _ _⟩

theorem takeInt_rd (R : Nat) (l : List UInt8) (k : Nat) (w : World) (hk : k ≤ l.length) (hk7 : k ≤ 7) (hl : l.length ≤ 9223372036854775807) (hr : RdAt l R w) :
    Calls Tryz.prog 62 #[.pointer (some ⟨R, 0, none⟩), .int .i64 k] w fun e w' => e = .returned (.int .i64 (beNum (l.take k))) ∧ RdAt (l.drop k) R w' ∧ w.grownBy w' (some R) := by
  have HT := Lib.hid (fun w hr => take_rd R l k w hk (by omega) hl hr)
  have hlt := beNum_lt8 (l := l.take k) 7 (by rw [List.length_take]; omega)
  generalize hbn : beNum (l.take k) = n at *
  have HBN := Lib.hid hbn; clear hbn
  have HR := Lib.hid hr; clear hr
  go_enter Tryz.func62, Tryz.ntmps62
  go_wp2_with fail
  refine (HT.out _ HR.out).mono ?_
  rintro e w' ⟨rfl, hr1, hg1⟩
  have HR1 := Lib.hid hr1; have HG1 := Lib.hid hg1; clear hr1 hg1
  go_wp2
  go_ret
  exact ⟨rfl, HR1.out, HG1.out⟩

theorem takeFrom_rd (R : Nat) (l : List UInt8) (p k : Nat) (w : World) (hk : p + k ≤ l.length) (hk8 : k ≤ 8) (hp8 : p ≤ 8) (hl : l.length ≤ 9223372036854775807) (hr : RdAt l R w) :
    Calls Tryz.prog 90 #[.pointer (some ⟨R, 0, none⟩), .agg #[.int .i64 p, .int .i64 k]] w fun e w' => e = .returned (.int .u64 (beNum ((l.drop p).take k))) ∧ RdAt (l.drop (p + k)) R w' ∧ w.grownBy w' (some R) := by
  have hsd := str_drop l p
  have hss : (str l).size = l.length := rfl
  have hc := hr.cell
  have hf := hr.free
  have hlt := hr.lt
  obtain ⟨s, hs⟩ : ∃ s, str l = s := ⟨_, rfl⟩
  rw [hs] at hc hsd hss
  have hsl : s.size ≤ 9223372036854775807 := by omega
  have hps : p ≤ s.size := by omega
  have HSD := Lib.hid hsd; have HR := Lib.hid hr
  clear hs hsd hss hr
  go_enter Tryz.func90, Tryz.ntmps90
  go_wp2_with fail
  go_region
  have HT := Lib.hid (fun w hr => take_rd R (l.drop p) k w (by rw [List.length_drop]; omega) hk8 (by rw [List.length_drop]; omega) hr)
  go_wp2_with fail
  have hr1 := ((HR.out.set (l.drop p)).alloc (.cells #[.int .i64 (p : Int), .int .i64 (k : Int)] 116)).drew
  rw [← HSD.out] at hr1
  refine (HT.out _ hr1).mono ?_
  rintro e w1 ⟨rfl, hr2, hg2⟩
  have HR2 := Lib.hid hr2; have HG2 := Lib.hid hg2; clear hr1 hr2 hg2
  go_wp2
  go_ret
  refine ⟨rfl, ?_, ?_⟩
  · have := HR2.out
    rwa [List.drop_drop] at this
  · exact ((grown_set w R 0 _).trans (grown_drew (World.grownBy_alloc _ _ _))).trans HG2.out
end Go.Proofs.YtdlpapchjjbplaaGreatDoor
