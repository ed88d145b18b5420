/-
  What head.put, and what stands on it, appends.
-/
import Derived.Test.YtdlpapchjjbplaaGreatDoorHeadB
import Derived.Test.YtdlpapchjjbplaaGreatDoorText
import Derived.Deep.AppendLies
import Derived.Maps.Range
namespace Go.Proofs.YtdlpapchjjbplaaGreatDoor
open Go.ChangeShapes Go.WideShapes Go.ChangeAt Go.RowKit
set_option linter.unusedVariables false

def byteV (b : UInt8) : Value := .int .u8 (b.toNat : Int)
/-- The slice at the head of block g owns these bytes. -/
def rowAt (w : World) (g cap : Nat) (l : List UInt8) : Prop := w.ownsRow 0 5 1 (.slice (some ⟨g, 0, none⟩) l.length cap) l.length (l.map byteV)
/-- What comes back of bytes appended: the old block or a new one; no other one has turned. -/
def PutOut (w : World) (g : Nat) (l : List UInt8) (e : Ending) (w' : World) : Prop :=
  ∃ g' cap', e = .returned (.slice (some ⟨g', 0, none⟩) l.length cap') ∧ rowAt w' g' cap' l ∧ w.grownBy w' (some g) ∧ (g' = g ∨ w.heap.size ≤ g')
theorem row_alloc {w : World} {g cap : Nat} {l : List UInt8} (h : rowAt w g cap l) (o : Obj) : rowAt (w.alloc o) g cap l := World.ownsRow.alloc h o
theorem row_drew {w : World} {g cap : Nat} {l : List UInt8} (h : rowAt w g cap l) : rowAt w.drew g cap l := h
/-- A row in a block that has not turned. -/
theorem row_grown {w w' : World} {g cap : Nat} {row : Option Nat} {l : List UInt8} (h : rowAt w g cap l) (hg : w.grownBy w' row) (hne : some g ≠ row) : rowAt w' g cap l := by
  obtain ⟨h1, h2⟩ := h
  refine ⟨h1, ?_⟩
  rcases h2 with ⟨h2, _⟩ | ⟨g2, cap2, cur, h2, h3, h4, h5⟩
  · cases h2
  · cases h2
    refine .inr ⟨_, _, cur, rfl, h3, ?_, h5⟩
    rw [hg.block _ ?_ hne]; exact h4
    rcases Nat.lt_or_ge g w.heap.size with hlt | hge
    · exact hlt
    · rw [Array.getElem?_eq_none hge] at h4; cases h4
theorem row_lt {w : World} {g cap : Nat} {l : List UInt8} (h : rowAt w g cap l) : g < w.heap.size := by
  rcases h.2 with ⟨h2, _⟩ | ⟨g2, cap2, cur, h2, h3, h4, h5⟩
  · cases h2
  · cases h2
    rcases Nat.lt_or_ge g w.heap.size with hlt | hge
    · exact hlt
    · rw [Array.getElem?_eq_none hge] at h4; cases h4

theorem ret_slice {a : Option Addr} {n m c : Nat} (h : n = m) : Ending.returned (.slice a n c) = .returned (.slice a m c) := by rw [h]
theorem infoU8 : (Tryz.prog.info? 5).map (fun i => (i.zero, i.size, i.bytes)) = some (some (.int .u8 0), 1, 1) := by kernel_rfl

/-- A new block of one cell reads as it was made. -/
theorem one_new (w : World) (x : Value) (t : TypeId) : ∀ j u, [x][j]? = some u → (w.alloc (.cells #[x] t)).cell? ((⟨w.heap.size, 0, none⟩ : Addr).add j) = some u := by
  intro j u hj
  rcases j with _ | j
  · cases hj
    exact (World.cell?_alloc_mark w _ _ (0, 0) 0).trans rfl
  · simp at hj
theorem byte_one (b : UInt8) : ∀ u ∈ [byteV b], u.oneCell' = true := by
  intro u hu
  rw [List.mem_singleton] at hu
  subst hu; rfl
theorem beBytes_le (k n : Nat) : (beBytes k n).length ≤ k := Nat.le_of_eq (beBytes_length k n)

set_option maxHeartbeats 400000 in
set_option maxRecDepth 100000 in
theorem put_any (g cap : Nat) (xs : List UInt8) (k n : Nat) (w : World) (hown : rowAt w g cap xs) (hn : n < 18446744073709551616) (hk : k ≤ 8) (hlen : xs.length ≤ 4096) :
    Calls Tryz.prog 67 #[.slice (some ⟨g, 0, none⟩) xs.length cap, .int .i64 k, .int .u64 n] w (PutOut w g (xs ++ beBytes k n)) := by
  obtain ⟨i0, hi, hz0, hz1, hz2⟩ := info_parts infoU8
  have HOWN := Lib.hid hown; clear hown
  go_enter Tryz.func67, Tryz.ntmps67
  go_wp2
  go_loopw [0, 1] (fun u c wr => ∃ (i : Nat) (ys : List UInt8) (g' cap' : Nat), i ≤ k ∧ u = .slice (some ⟨g', 0, none⟩) ys.length cap' ∧ c = .int .i64 i ∧ Hid (ys ++ beBytes i n = xs ++ beBytes k n) ∧ ys.length ≤ 4096 + k - i ∧ Hid (rowAt wr g' cap' ys) ∧ Hid (w.grownBy wr (some g)) ∧ Hid (g' = g ∨ w.heap.size ≤ g')) (fun _ c _ => (intOf c).toNat)
  case atStart => exact ⟨k, xs, g, cap, Nat.le_refl _, rfl, rfl, Lib.hid rfl, by omega, HOWN, Lib.hid (World.grownBy.refl _ _), Lib.hid (.inl rfl)⟩
  case round =>
    obtain ⟨i, ys, g', cap', hik, rfl, rfl, hys, hyl, hrow, hgr, hor⟩ := hrel
    rcases i with _ | i
    · go_wp2
      go_ret
      have h := hys.out
      rw [beBytes, List.append_nil] at h
      subst h
      exact ⟨_, _, rfl, hrow.out, hgr.out, hor.out⟩
    · obtain ⟨b, hbb⟩ : ∃ b, UInt8.ofNat (n / 256 ^ i % 256) = b := ⟨_, rfl⟩
      have hbi : (n : Int) / 2 ^ (8 * i) % 256 = (b.toNat : Int) := by
        have h1 : b.toNat = n / 256 ^ i % 256 := by rw [← hbb]; simp
        have h2 : (2 : Int) ^ (8 * i) = ((256 ^ i : Nat) : Int) := by rw [Int.pow_mul]; simp
        rw [h1, h2]; simp
      have hys2 : Hid ((ys ++ [b]) ++ beBytes i n = xs ++ beBytes k n) := Lib.hid (by rw [← hys.out, beBytes, ← hbb]; simp)
      clear hys hbb
      have hl63 : ys.length + 1 ≤ maxLen := by unfold maxLen; omega
      go_wp2_with (
        at_builtin; (refine wpList_append_lies _ rfl _ _ 34 rfl 0 5 i0 (.int .u8 0) 1 1 Tryz.underlying34 hi hz0 hz1 hz2 rfl (by decide) _ _ _ rfl (hrow.out.alloc _) ⟨wr.heap.size, 0, none⟩ 1 1 [byteV b] rfl rfl (one_new wr _ _) (byte_one b) (by decide) hl63 (by omega) (Nat.zero_le _) _ rfl ?_; intro g1 cap1 w1 hown1 hgrow1 hat1 hlt1))
      have hg1 : w.grownBy w1 (some g) := by
        refine (hgr.out.trans (World.grownBy_alloc _ _ _)).andThen hgrow1 ?_
        intro j hj
        cases hj
        rcases hor.out with h | h
        · exact .inr (by rw [h])
        · exact .inl h
      have ho1 : g1 = g ∨ w.heap.size ≤ g1 := by
        rcases hat1 with h | h
        · have e : g1 = g' := (Option.some.inj (show some g' = some g1 from h)).symm
          rw [e]; exact hor.out
        · right; rw [h]; have := hgr.out.size; simp; omega
      exact ⟨⟨i, ys ++ [b], g1, cap1, by omega, by simp, rfl, hys2, by simp; omega, Lib.hid (by unfold rowAt; rw [List.length_append, List.map_append]; exact hown1), Lib.hid hg1, Lib.hid ho1⟩, by simp [intOf]⟩

theorem putIn_any (g cap : Nat) (xs : List UInt8) (p k n : Nat) (w : World) (hown : rowAt w g cap xs) (hn : n < 18446744073709551616) (hk : p + k ≤ 8) (hlen : xs.length ≤ 4096) :
    Calls Tryz.prog 93 #[.slice (some ⟨g, 0, none⟩) xs.length cap, .agg #[.int .i64 p, .int .i64 k], .int .u64 n] w (PutOut w g (xs ++ beBytes (p + k) n)) := by
  have HC := Lib.hid (fun w (h1 : rowAt w g cap xs) => put_any g cap xs (p + k) n w h1 hn hk hlen)
  rw [Int.natCast_add] at HC
  have HOWN := Lib.hid hown; clear hown
  go_enter Tryz.func93, Tryz.ntmps93
  go_wp2_with fail
  refine (HC.out _ (HOWN.out.alloc _)).mono ?_
  rintro e w1 ⟨g1, cap1, rfl, hr1, hb1, ho1⟩
  have HR := Lib.hid hr1; have HB := Lib.hid hb1; have HO := Lib.hid ho1; clear hr1 hb1 ho1
  go_wp2
  go_ret
  refine ⟨g1, cap1, ret_slice (by simp), HR.out, (World.grownBy_alloc _ _ _).trans HB.out, ?_⟩
  rcases HO.out with h | h
  · exact .inl h
  · right; simp at h; omega
end Go.Proofs.YtdlpapchjjbplaaGreatDoor
