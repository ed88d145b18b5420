/-
  What head.putNumbers and head.putExtras append.
-/
import Derived.Test.YtdlpapchjjbplaaGreatDoorHeadC
import Derived.RegionTactic
import Derived.RegionCalls
import Derived.Deep.RegionWith
import Derived.Deep.RegionHeld3
import Derived.Deep.Cut
import Derived.Deep.DeepCutAuto
namespace Go.Proofs.YtdlpapchjjbplaaGreatDoor
open Go.ChangeShapes Go.WideShapes Go.ChangeAt Go.RowKit
set_option linter.unusedVariables false

def seqPad (x : Bool) : Nat := if x = true then 1 else 0
def ackPad (x : Bool) : Nat := if x = true then 2 else 1
def numLen (x : Bool) : Nat := if x = true then 6 else 3

theorem seqRoom_any (x : Bool) (w : World) :
    Calls Tryz.prog 91 #[.bool x] w fun e w' => e = .returned (.agg #[.int .i64 (seqPad x), .int .i64 (numLen x)]) ∧ w' = w.alloc (.cells #[.int .i64 (seqPad x), .int .i64 (numLen x)] 116) := by
  cases x
  all_goals
    go_enter Tryz.func91, Tryz.ntmps91
    go_wp2
  · exact bodyPost_ret (v := .agg #[.int .i64 0, .int .i64 3]) (by simp [results, Tryz.results91, go_sem]) rfl ⟨rfl, rfl⟩
  · exact bodyPost_ret (v := .agg #[.int .i64 1, .int .i64 6]) (by simp [results, Tryz.results91, go_sem]) rfl ⟨rfl, rfl⟩
theorem ackRoom_any (x : Bool) (w : World) :
    Calls Tryz.prog 92 #[.bool x] w fun e w' => e = .returned (.agg #[.int .i64 (ackPad x), .int .i64 (numLen x)]) ∧ w' = w.alloc (.cells #[.int .i64 (ackPad x), .int .i64 (numLen x)] 116) := by
  cases x
  all_goals
    go_enter Tryz.func92, Tryz.ntmps92
    go_wp2
  · exact bodyPost_ret (v := .agg #[.int .i64 1, .int .i64 3]) (by simp [results, Tryz.results92, go_sem]) rfl ⟨rfl, rfl⟩
  · exact bodyPost_ret (v := .agg #[.int .i64 2, .int .i64 6]) (by simp [results, Tryz.results92, go_sem]) rfl ⟨rfl, rfl⟩

theorem pads_le (x : Bool) : seqPad x + numLen x ≤ 8 ∧ ackPad x + numLen x ≤ 8 := by cases x <;> decide

def Hd.box (h : Hd) : Obj := .cells #[.int .i64 h.src, .int .i64 h.dst, .int .i64 h.off, .int .i64 h.cc, .int .i64 h.cs, .int .i64 h.sum, .int .i64 h.type, .bool h.x, .int .u64 h.seq, .int .u64 h.ack, .int .u32 h.service, .int .i64 h.code, .int .u8 h.i0, .int .u8 h.i1, .int .u8 h.i2] 39

/-- What a head's numbers are as bytes. -/
def Hd.seqBytes (h : Hd) : List UInt8 := beBytes (seqPad h.x + numLen h.x) h.seq
def Hd.ackBytes (h : Hd) : List UInt8 := if hasAckB h.type = true then beBytes (ackPad h.x + numLen h.x) h.ack else []

theorem seqBytes_le (h : Hd) : h.seqBytes.length ≤ 8 := by unfold Hd.seqBytes; rw [beBytes_length]; exact (pads_le h.x).1

/-- What is known behind bytes appended, the head lying at block B. -/
def Behind (w0 : World) (g : Nat) (l : List UInt8) (v : Value) (wx : World) : Prop :=
  ∃ g1 cap1, v = .slice (some ⟨g1, 0, none⟩) l.length cap1 ∧ rowAt wx g1 cap1 l ∧ w0.grownBy wx (some g) ∧ (g1 = g ∨ w0.heap.size ≤ g1)

theorem behind_put {w0 w1 w2 : World} {g g1 cap1 : Nat} {l : List UInt8} (h0 : w0.grownBy w1 (some g)) (hr : rowAt w2 g1 cap1 l) (hb : w1.grownBy w2 (some g)) (ho : g1 = g ∨ w1.heap.size ≤ g1) :
    Behind w0 g l (.slice (some ⟨g1, 0, none⟩) l.length cap1) w2 :=
  ⟨g1, cap1, rfl, hr, h0.trans hb, by have := h0.size; omega⟩

theorem grown_drew {a b : World} {row : Option Nat} (h : a.grownBy b row) : a.grownBy b.drew row := ⟨h.os, h.tape, h.output, h.size, h.block⟩

set_option maxHeartbeats 1000000 in
theorem putNumbers_any (h : Hd) (g cap : Nat) (xs : List UInt8) (w : World) (hown : rowAt w g cap xs) (h1 : h.seq < 18446744073709551616) (h2 : h.ack < 18446744073709551616) (hlen : xs.length ≤ 2048) :
    Calls Tryz.prog 69 #[.slice (some ⟨g, 0, none⟩) xs.length cap, h.val] w (PutOut w g (xs ++ (h.seqBytes ++ h.ackBytes))) := by
  have hlt := row_lt hown
  have HOWN := Lib.hid hown; clear hown
  have hp := pads_le h.x
  have hsb := seqBytes_le h
  unfold Hd.val
  go_enter Tryz.func69, Tryz.ntmps69
  go_upto_region 1 with fail
  go_cut [0] (fun s0 wx => Behind (w.alloc h.box) g (xs ++ h.seqBytes) s0 wx)
  case first =>
    go_region_with (first
      | (go_at_call 91; refine (seqRoom_any _ _).mono ?_; rintro e w1 ⟨rfl, rfl⟩)
      | (go_at_call 93; refine (putIn_any g cap xs (seqPad h.x) (numLen h.x) h.seq _ (row_drew (row_alloc (row_alloc HOWN.out _) _)) h1 (by omega) (by omega)).mono ?_; rintro e w1 ⟨g1, cap1, rfl, hr1, hb1, ho1⟩))
    all_goals (
      go_wp2_with fail
      go_meet
      rw [show xs.length + (beBytes (seqPad h.x + numLen h.x) h.seq).length = (xs ++ h.seqBytes).length by simp [Hd.seqBytes]]
      exact behind_put (grown_drew (World.grownBy_alloc _ _ _)) hr1 hb1 ho1)
  case rest =>
    obtain ⟨g1, cap1, rfl, hr1, hb1, ho1⟩ := hcut
    have hcell : ∀ o, wc.cell? ⟨w.heap.size, o, none⟩ = (w.alloc h.box).cell? ⟨w.heap.size, o, none⟩ := fun o => hb1.cell_far ⟨w.heap.size, o, none⟩ (by simp) (by simp; omega)
    unfold Hd.box at hcell
    have c6 := hcell 6
    have c7 := hcell 7
    have c9 := hcell 9
    simp at c6 c7 c9
    have hsz := hb1.size
    simp at hsz
    have c7a : ∀ o, (wc.alloc o).cell? ⟨w.heap.size, 7, none⟩ = some (.bool h.x) := fun o => by rw [World.cell?_alloc_past _ _ _ (by omega)]; exact c7
    have c9a : ∀ o, (wc.alloc o).cell? ⟨w.heap.size, 9, none⟩ = some (.int .u64 h.ack) := fun o => by rw [World.cell?_alloc_past _ _ _ (by omega)]; exact c9
    have HR1 := Lib.hid hr1; have HB1 := Lib.hid hb1; have HO1 := Lib.hid ho1
    clear hcell hr1 hb1 ho1
    have HA : Hid (h.ackBytes = if hasAckB h.type = true then beBytes (ackPad h.x + numLen h.x) h.ack else []) := Lib.hid rfl
    by_cases ha : hasAckB h.type = true
    · have HH := Lib.hid (fun w => hasAck_any h.type w)
      rw [ha] at HH HA
      rw [if_pos rfl] at HA
      clear ha
      have HP := Lib.hid (fun w (hr : rowAt w g1 cap1 (xs ++ h.seqBytes)) => putIn_any g1 cap1 (xs ++ h.seqBytes) (ackPad h.x) (numLen h.x) h.ack w hr h2 hp.2 (by rw [List.length_append]; omega))
      rw [List.length_append] at HP
      go_upto_region 3 with (go_at_call 25; refine (HH.out _).mono ?_; rintro e w' ⟨rfl, rfl⟩)
      go_region_with (first
        | (go_at_call 92; refine (ackRoom_any _ _).mono ?_; rintro e w1 ⟨rfl, rfl⟩)
        | (go_at_call 93; refine (HP.out _ (row_drew (row_alloc HR1.out _))).mono ?_; rintro e w1 ⟨g2, cap2, rfl, hr2, hb2, ho2⟩))
      all_goals (
        have HR2 := Lib.hid hr2; have HB2 := Lib.hid hb2; have HO2 := Lib.hid ho2
        clear hr2 hb2 ho2
        go_wp2
        go_ret
        refine ⟨g2, cap2, ret_slice (by rw [HA.out]; simp), by rw [HA.out, ← List.append_assoc]; exact HR2.out, ?_, ?_⟩
        · refine (((World.grownBy_alloc _ _ _).trans HB1.out).trans (grown_drew (World.grownBy_alloc _ _ _))).andThen HB2.out ?_
          intro j hj
          cases hj
          have := HO1.out
          simp at this
          rcases this with h | h
          · exact .inr (by rw [h])
          · exact .inl (by omega)
        · have h1 := HO1.out
          have h2 := HO2.out
          simp at h1 h2
          omega)
    · have HH := Lib.hid (fun w => hasAck_any h.type w)
      rw [Bool.eq_false_iff.2 ha] at HH HA
      rw [if_neg (by decide)] at HA
      clear ha
      go_wp2_with (go_at_call 25; refine (HH.out _).mono ?_; rintro e w' ⟨rfl, rfl⟩)
      go_ret
      refine ⟨g1, cap1, ret_slice (by rw [HA.out]; simp), by rw [HA.out, List.append_nil]; exact HR1.out, (World.grownBy_alloc _ _ _).trans HB1.out, ?_⟩
      have h1 := HO1.out
      simp at h1
      omega
end Go.Proofs.YtdlpapchjjbplaaGreatDoor
