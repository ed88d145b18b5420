/-
  Heads: the value that stands for one, and the small questions on types.
  Which heads may be.
  What head.put, and what stands on it, appends.
-/
import Derived.Test.YtnhlachoimlhhaaGreatDoorChecked
import Derived.Test.YtnhlachoimlhhaaGreatDoorMatW
import Derived.ProofKit
import Derived.LoopTactic
import Derived.Outline
import Derived.Test.YtnhlachoimlhhaaGreatDoorArr3
import Derived.Test.YtnhlachoimlhhaaGreatDoorText
import Derived.Deep.AppendLies
import Derived.Maps.Range
namespace Go.Proofs.YtnhlachoimlhhaaGreatDoor
open Go.ChangeShapes Go.WideShapes Go.ChangeAt Go.RowKit
set_option linter.unusedVariables false

/-- A head's fields. -/
structure Hd where
  src : Int
  dst : Int
  off : Int
  cc : Int
  cs : Int
  sum : Int
  type : Int
  x : Bool
  seq : Nat
  ack : Nat
  service : Nat
  code : Int
  i0 : Nat
  i1 : Nat
  i2 : Nat

def Hd.val (h : Hd) : Value := .agg #[.int .i64 h.src, .int .i64 h.dst, .int .i64 h.off, .int .i64 h.cc, .int .i64 h.cs, .int .i64 h.sum, .int .i64 h.type, .bool h.x, .int .u64 h.seq, .int .u64 h.ack, .int .u32 h.service, .int .i64 h.code, .int .u8 h.i0, .int .u8 h.i1, .int .u8 h.i2]

def isTypeB (t : Int) : Bool := decide (0 ≤ t ∧ t ≤ 9)
def hasAckB (t : Int) : Bool := decide (t = 1 ∨ 3 ≤ t ∧ t ≤ 9)
def sizeN (t : Int) (x : Bool) : Nat :=
  if t < 0 ∨ 9 < t then 0 else if x = false ∧ ¬ (2 ≤ t ∧ t ≤ 4) then 0 else
    (if x = true then 16 else 12) + (if hasAckB t = true then (if x = true then 8 else 4) else 0) + (if t = 0 ∨ t = 1 ∨ t = 7 then 4 else 0)

theorem type_cases (t : Int) : t < 0 ∨ 9 < t ∨ t = 0 ∨ t = 1 ∨ t = 2 ∨ t = 3 ∨ t = 4 ∨ t = 5 ∨ t = 6 ∨ t = 7 ∨ t = 8 ∨ t = 9 := by omega
theorem hasAckB_out {t : Int} (h : t < 0 ∨ 9 < t) : hasAckB t = false := decide_eq_false (by omega)
theorem sizeN_out {t : Int} (x : Bool) (h : t < 0 ∨ 9 < t) : sizeN t x = 0 := if_pos h

theorem hasAck_any (t : Int) (w : World) :
    Calls Tryz.prog 98 #[.int .i64 t] w fun e w' => e = .returned (.bool (hasAckB t)) ∧ w = w' := by
  rcases type_cases t with h | h | rfl | rfl | rfl | rfl | rfl | rfl | rfl | rfl | rfl | rfl
  case inl =>
    have HO := Lib.hid (hasAckB_out (.inl h))
    have hd : decide (0 ≤ t) = false := decide_eq_false (by omega)
    go_enter Tryz.func98, Tryz.ntmps98
    go_wp2
    go_ret
    exact ⟨M.ret_bool (by rw [HO.out]), rfl⟩
  case inr.inl =>
    have HO := Lib.hid (hasAckB_out (.inr h))
    have hd : decide (0 ≤ t) = true := decide_eq_true (by omega)
    have hd2 : decide (t ≤ 9) = false := decide_eq_false (by omega)
    go_enter Tryz.func98, Tryz.ntmps98
    go_wp2
    go_ret
    exact ⟨M.ret_bool (by rw [HO.out]), rfl⟩
  all_goals
    go_enter Tryz.func98, Tryz.ntmps98
    go_wp2
    go_ret
    exact ⟨M.ret_bool (by decide), rfl⟩

theorem size_any (t : Int) (x : Bool) (w : World) :
    Calls Tryz.prog 211 #[.int .i64 t, .bool x] w fun e w' => e = .returned (.int .i64 (sizeN t x)) ∧ w = w' := by
  rcases type_cases t with h | h | rfl | rfl | rfl | rfl | rfl | rfl | rfl | rfl | rfl | rfl
  case inl =>
    have HO := Lib.hid (sizeN_out x (.inl h))
    have hd : decide (0 ≤ t) = false := decide_eq_false (by omega)
    go_enter Tryz.func211, Tryz.ntmps211
    go_wp2
    go_ret
    exact ⟨M.ret_int (by rw [HO.out]; rfl), rfl⟩
  case inr.inl =>
    have HO := Lib.hid (sizeN_out x (.inr h))
    have hd : decide (0 ≤ t) = true := decide_eq_true (by omega)
    have hd2 : decide (t ≤ 9) = false := decide_eq_false (by omega)
    go_enter Tryz.func211, Tryz.ntmps211
    go_wp2
    go_ret
    exact ⟨M.ret_int (by rw [HO.out]; rfl), rfl⟩
  all_goals
    cases x
    all_goals
      go_enter Tryz.func211, Tryz.ntmps211
      go_wp2
      go_ret
      exact ⟨M.ret_int (by decide), rfl⟩

theorem refHasAck_any (t : Int) (w : World) :
    Calls Tryz.prog 52 #[.int .i64 t] w fun e w' => e = .returned (.bool (hasAckB t)) ∧ w = w' := by
  rcases type_cases t with h | h | rfl | rfl | rfl | rfl | rfl | rfl | rfl | rfl | rfl | rfl
  case inl =>
    have HO := Lib.hid (hasAckB_out (.inl h))
    have h0 : (t == 1) = false := by rw [beq_eq_false_iff_ne]; omega
    have hd : decide (3 ≤ t) = false := decide_eq_false (by omega)
    go_enter Tryz.func52, Tryz.ntmps52
    go_wp2
    go_ret
    exact ⟨M.ret_bool (by rw [HO.out]), rfl⟩
  case inr.inl =>
    have HO := Lib.hid (hasAckB_out (.inr h))
    have h0 : (t == 1) = false := by rw [beq_eq_false_iff_ne]; omega
    have hd : decide (3 ≤ t) = true := decide_eq_true (by omega)
    have hd2 : decide (t ≤ 9) = false := decide_eq_false (by omega)
    go_enter Tryz.func52, Tryz.ntmps52
    go_wp2
    go_ret
    exact ⟨M.ret_bool (by rw [HO.out]), rfl⟩
  all_goals
    go_enter Tryz.func52, Tryz.ntmps52
    go_wp2
    go_ret
    exact ⟨M.ret_bool (by decide), rfl⟩

/-- How great a number may be, of 48 bits or of 24. -/
def mostN (x : Bool) : Nat := if x = true then 281474976710656 else 16777216

theorem hasRoom_any (n : Nat) (x : Bool) (hn : n < 18446744073709551616) (w : World) :
    Calls Tryz.prog 290 #[.int .u64 n, .bool x] w fun e w' => e = .returned (.bool (decide (n < mostN x))) ∧ w = w' := by
  have h48 := M.and48
  have h24 := M.and24
  cases x
  · have hm : mostN false = 16777216 := rfl
    rw [hm]
    by_cases h : n < 16777216
    · have hb : (((n : Nat) : Int) == n % 16777216) = true := by rw [beq_iff_eq]; omega
      go_enter Tryz.func290, Tryz.ntmps290
      go_wp2
      go_ret
      exact ⟨M.ret_bool (by first | rfl | (simp; omega)), rfl⟩
    · have hb : (((n : Nat) : Int) == n % 16777216) = false := by rw [beq_eq_false_iff_ne]; omega
      go_enter Tryz.func290, Tryz.ntmps290
      go_wp2
      go_ret
      exact ⟨M.ret_bool (by first | rfl | (simp; omega)), rfl⟩
  · have hm : mostN true = 281474976710656 := rfl
    rw [hm]
    by_cases h : n < 281474976710656
    · have hb : (((n : Nat) : Int) == n % 281474976710656) = true := by rw [beq_iff_eq]; omega
      go_enter Tryz.func290, Tryz.ntmps290
      go_wp2
      go_ret
      exact ⟨M.ret_bool (by first | rfl | (simp; omega)), rfl⟩
    · have hb : (((n : Nat) : Int) == n % 281474976710656) = false := by rw [beq_eq_false_iff_ne]; omega
      go_enter Tryz.func290, Tryz.ntmps290
      go_wp2
      go_ret
      exact ⟨M.ret_bool (by first | rfl | (simp; omega)), rfl⟩
end Go.Proofs.YtnhlachoimlhhaaGreatDoor

namespace Go.Proofs.YtnhlachoimlhhaaGreatDoor
open Go.ChangeShapes Go.WideShapes Go.ChangeAt Go.RowKit
set_option linter.unusedVariables false

def btw (l n h : Int) : Bool := decide (l ≤ n) && decide (n ≤ h)
theorem btw_true {l n h : Int} : btw l n h = true ↔ l ≤ n ∧ n ≤ h := by simp [btw]

theorem between_any (l n h : Int) (w : World) :
    Calls Tryz.prog 156 #[.int .i64 l, .int .i64 n, .int .i64 h] w fun e w' => e = .returned (.bool (btw l n h)) ∧ w = w' := by
  have HB : Hid (btw l n h = (decide (l ≤ n) && decide (n ≤ h))) := Lib.hid rfl
  by_cases h1 : l ≤ n
  · have hd := decide_eq_true h1
    go_enter Tryz.func156, Tryz.ntmps156
    go_wp2
    go_ret
    exact ⟨M.ret_bool (by rw [HB.out, hd]; simp), rfl⟩
  · have hd := decide_eq_false h1
    go_enter Tryz.func156, Tryz.ntmps156
    go_wp2
    go_ret
    exact ⟨M.ret_bool (by rw [HB.out, hd]; simp), rfl⟩

def roomB (n : Nat) (x : Bool) : Bool := decide (n < mostN x)
theorem hasRoomB_any (n : Nat) (x : Bool) (hn : n < 18446744073709551616) (w : World) :
    Calls Tryz.prog 290 #[.int .u64 n, .bool x] w fun e w' => e = .returned (.bool (roomB n x)) ∧ w = w' := hasRoom_any n x hn w

def Hd.numbersB (h : Hd) : Bool := (hasAckB h.type || decide (h.ack = 0)) && (roomB h.seq h.x && roomB h.ack h.x)
def serviceB (t : Int) : Bool := decide (t = 0 ∨ t = 1)
def codeB (t : Int) : Bool := decide (t = 7)
def Hd.extrasB (h : Hd) : Bool := (serviceB h.type || decide (h.service = 0)) && (if codeB h.type = true then btw 0 h.code 255 else decide (h.code = 0 ∧ h.i0 = 0 ∧ h.i1 = 0 ∧ h.i2 = 0))

theorem hasService_any (t : Int) (w : World) :
    Calls Tryz.prog 245 #[.int .i64 t] w fun e w' => e = .returned (.bool (serviceB t)) ∧ w = w' := by
  have HB : Hid (serviceB t = decide (t = 0 ∨ t = 1)) := Lib.hid rfl
  by_cases h : t = 0
  · subst h
    go_enter Tryz.func245, Tryz.ntmps245
    go_wp2
    go_ret
    exact ⟨M.ret_bool (by decide), rfl⟩
  · have h0 : (t == 0) = false := by rw [beq_eq_false_iff_ne]; exact h
    go_enter Tryz.func245, Tryz.ntmps245
    go_wp2
    go_ret
    exact ⟨M.ret_bool (by rw [HB.out, Bool.eq_iff_iff]; simp; omega), rfl⟩
theorem hasCode_any (t : Int) (w : World) :
    Calls Tryz.prog 246 #[.int .i64 t] w fun e w' => e = .returned (.bool (codeB t)) ∧ w = w' := by
  have HB : Hid (codeB t = decide (t = 7)) := Lib.hid rfl
  go_enter Tryz.func246, Tryz.ntmps246
  go_wp2
  go_ret
  exact ⟨M.ret_bool (by rw [HB.out, Bool.eq_iff_iff]; simp), rfl⟩

theorem numbersMay_any (h : Hd) (w : World) (h1 : h.seq < 18446744073709551616) (h2 : h.ack < 18446744073709551616) :
    Calls Tryz.prog 257 #[h.val] w fun e w' => e = .returned (.bool h.numbersB) ∧ Below w.heap.size w w' := by
  have HB : Hid (h.numbersB = ((hasAckB h.type || decide (h.ack = 0)) && (roomB h.seq h.x && roomB h.ack h.x))) := Lib.hid rfl
  unfold Hd.val
  by_cases h0 : h.ack = 0
  · have hb : ((h.ack : Int) != 0) = false := by rw [bne_eq_false_iff_eq]; omega
    have H0 := Lib.hid (decide_eq_true h0); clear h0
    go_enter Tryz.func257, Tryz.ntmps257
    go_wp2_with (first
      | (go_at_call 98; refine (hasAck_any _ _).mono ?_; rintro e w' ⟨rfl, rfl⟩)
      | (go_at_call 290; refine (hasRoomB_any _ _ (by assumption) _).mono ?_; rintro e w' ⟨rfl, rfl⟩))
    all_goals go_ret
    all_goals refine ⟨M.ret_bool ?_, (Below.refl _ _).alloc (Nat.le_refl _) _⟩
    all_goals rw [HB.out, H0.out]
    all_goals simp [*]
  · have hb : ((h.ack : Int) != 0) = true := by rw [bne_iff_ne]; omega
    have H0 := Lib.hid (decide_eq_false h0); clear h0
    go_enter Tryz.func257, Tryz.ntmps257
    go_wp2_with (first
      | (go_at_call 98; refine (hasAck_any _ _).mono ?_; rintro e w' ⟨rfl, rfl⟩)
      | (go_at_call 290; refine (hasRoomB_any _ _ (by assumption) _).mono ?_; rintro e w' ⟨rfl, rfl⟩))
    all_goals go_ret
    all_goals refine ⟨M.ret_bool ?_, (Below.refl _ _).alloc (Nat.le_refl _) _⟩
    all_goals rw [HB.out, H0.out]
    all_goals simp [*]

set_option maxRecDepth 100000 in
theorem extrasMay_any (h : Hd) (w : World) :
    Calls Tryz.prog 258 #[h.val] w fun e w' => e = .returned (.bool h.extrasB) ∧ Below w.heap.size w w' := by
  have HB : Hid (h.extrasB = ((serviceB h.type || decide (h.service = 0)) && (if codeB h.type = true then btw 0 h.code 255 else decide (h.code = 0 ∧ h.i0 = 0 ∧ h.i1 = 0 ∧ h.i2 = 0)))) := Lib.hid rfl
  have he := fun w => eql3 h.i0 h.i1 h.i2 0 0 0 w
  obtain ⟨sb, hsb⟩ : ∃ sb, decide (h.service = 0) = sb := ⟨_, rfl⟩
  have hsn : ((h.service : Int) != 0) = !sb := by
    cases sb
    · have := of_decide_eq_false hsb; simp; omega
    · have := of_decide_eq_true hsb; simp; omega
  obtain ⟨cb, hcb⟩ : ∃ cb, decide (h.code = 0) = cb := ⟨_, rfl⟩
  have hcn : (h.code == 0) = cb := by rw [← hcb, Bool.eq_iff_iff]; simp
  obtain ⟨ib, hib⟩ : ∃ ib, decide (h.i0 = 0 ∧ h.i1 = 0 ∧ h.i2 = 0) = ib := ⟨_, rfl⟩
  have hin : ((h.i0 : Int) == 0 && ((h.i1 : Int) == 0 && (h.i2 : Int) == 0)) = ib := by rw [← hib, Bool.eq_iff_iff]; simp
  have hall : decide (h.code = 0 ∧ h.i0 = 0 ∧ h.i1 = 0 ∧ h.i2 = 0) = (cb && ib) := by rw [← hcb, ← hib, Bool.eq_iff_iff]; simp
  rw [hsb, hall] at HB
  rw [hin] at he
  clear hsb hcb hib hin hall
  unfold Hd.val
  cases sb <;> cases cb <;> cases ib <;> simp only [Bool.not_true, Bool.not_false] at hsn
  all_goals
    go_enter Tryz.func258, Tryz.ntmps258
    go_wp2_with (first
      | (go_at_call 245; refine (hasService_any _ _).mono ?_; rintro e w' ⟨rfl, rfl⟩)
      | (go_at_call 246; refine (hasCode_any _ _).mono ?_; rintro e w' ⟨rfl, rfl⟩)
      | (go_at_call 156; refine (between_any _ _ _ _).mono ?_; rintro e w' ⟨rfl, rfl⟩))
    all_goals go_ret
    all_goals refine ⟨M.ret_bool ?_, (Below.refl _ _).alloc (Nat.le_refl _) _⟩
    all_goals rw [HB.out]
    all_goals simp [*]

/-- May a head be? -/
def Hd.mayB (h : Hd) : Bool := decide (sizeN h.type h.x ≠ 0) && (btw 0 h.src 65535 && (btw 0 h.dst 65535 && (btw (sizeN h.type h.x / 4 : Nat) h.off 255 && (btw 0 h.cc 15 && (btw 0 h.cs 15 && (btw 0 h.sum 65535 && (h.numbersB && h.extrasB)))))))

theorem bcell {W w1 : World} (hb : Below W.heap.size W w1) : (∀ b o, b < W.heap.size → w1.cell? ⟨b, o, none⟩ = W.cell? ⟨b, o, none⟩) ∧ (∀ b o, b < W.heap.size → w1.frozen? ⟨b, o, none⟩ = W.frozen? ⟨b, o, none⟩) :=
  ⟨fun b o h => hb.cell (p := ⟨b, o, none⟩) h, fun b o h => hb.frozen (p := ⟨b, o, none⟩) h⟩

theorem sizeN_le (t : Int) (x : Bool) : sizeN t x ≤ 28 := by
  unfold sizeN; split
  · omega
  · split
    · omega
    · (repeat' split) <;> omega

set_option maxHeartbeats 1000000 in
theorem may_any (h : Hd) (w : World) (h1 : h.seq < 18446744073709551616) (h2 : h.ack < 18446744073709551616) :
    Calls Tryz.prog 231 #[h.val] w fun e w' => e = .returned (.bool h.mayB) ∧ Below w.heap.size w w' := by
  have HM : Hid (h.mayB = (decide (sizeN h.type h.x ≠ 0) && (btw 0 h.src 65535 && (btw 0 h.dst 65535 && (btw (sizeN h.type h.x / 4 : Nat) h.off 255 && (btw 0 h.cc 15 && (btw 0 h.cs 15 && (btw 0 h.sum 65535 && (h.numbersB && h.extrasB))))))))) := Lib.hid rfl
  have HNM := Lib.hid (fun w => numbersMay_any h w h1 h2)
  have HEM := Lib.hid (fun w => extrasMay_any h w)
  unfold Hd.val at HNM HEM ⊢
  have hs := sizeN_le h.type h.x
  have HSZ := Lib.hid (fun w => size_any h.type h.x w)
  generalize sizeN h.type h.x = n at *
  rw [Int.natCast_ediv] at HM
  generalize h.numbersB = nb at *
  generalize h.extrasB = eb at *
  go_enter Tryz.func231, Tryz.ntmps231
  go_wp2_with (first
    | (go_at_call 211; refine (HSZ.out _).mono ?_; rintro e w' ⟨rfl, rfl⟩)
    | (go_at_call 156; refine (between_any _ _ _ _).mono ?_; rintro e w' ⟨rfl, rfl⟩)
    | (go_at_call 257; refine (HNM.out _).mono ?_; rintro e w1 ⟨rfl, hb1⟩; obtain ⟨hc1, hf1⟩ := bcell hb1)
    | (go_at_call 258; refine (HEM.out _).mono ?_; rintro e w2 ⟨rfl, hb2⟩))
  all_goals go_ret
  all_goals refine ⟨M.ret_bool (by rw [HM.out]; simp [*]), ?_⟩
  all_goals first
    | exact bel_alloc _ _
    | exact bel_trans (bel_alloc _ _) hb1
    | exact bel_trans (bel_trans (bel_alloc _ _) hb1) hb2
end Go.Proofs.YtnhlachoimlhhaaGreatDoor

namespace Go.Proofs.YtnhlachoimlhhaaGreatDoor
open Go.ChangeShapes Go.WideShapes Go.ChangeAt Go.RowKit
set_option linter.unusedVariables false

def byteV (b : UInt8) : Value := .int .u8 (b.toNat : Int)
/-- The slice at the head of block g owns these bytes. -/
def rowAt (w : World) (g cap : Nat) (l : List UInt8) : Prop := w.ownsRow 0 5 1 (.slice (some ⟨g, 0, none⟩) l.length cap) l.length (l.map byteV)
/-- What comes back of bytes appended: the old block or a new one; no other one has turned. -/
def PutOut (w : World) (g : Nat) (l : List UInt8) (e : Ending) (w' : World) : Prop :=
  ∃ g' cap', e = .returned (.slice (some ⟨g', 0, none⟩) l.length cap') ∧ rowAt w' g' cap' l ∧ w.grownBy w' (some g) ∧ (g' = g ∨ w.heap.size ≤ g')
theorem row_alloc {w : World} {g cap : Nat} {l : List UInt8} (h : rowAt w g cap l) (o : Obj) : rowAt (w.alloc o) g cap l := World.ownsRow.alloc h o
theorem row_drew {w : World} {g cap : Nat} {l : List UInt8} (h : rowAt w g cap l) : rowAt w.drew g cap l := h
/-- A row in a block that has not turned. -/
theorem row_grown {w w' : World} {g cap : Nat} {row : Option Nat} {l : List UInt8} (h : rowAt w g cap l) (hg : w.grownBy w' row) (hne : some g ≠ row) : rowAt w' g cap l := by
  obtain ⟨h1, h2⟩ := h
  refine ⟨h1, ?_⟩
  rcases h2 with ⟨h2, _⟩ | ⟨g2, cap2, cur, h2, h3, h4, h5⟩
  · cases h2
  · cases h2
    refine .inr ⟨_, _, cur, rfl, h3, ?_, h5⟩
    rw [hg.block _ ?_ hne]; exact h4
    rcases Nat.lt_or_ge g w.heap.size with hlt | hge
    · exact hlt
    · rw [Array.getElem?_eq_none hge] at h4; cases h4
theorem row_lt {w : World} {g cap : Nat} {l : List UInt8} (h : rowAt w g cap l) : g < w.heap.size := by
  rcases h.2 with ⟨h2, _⟩ | ⟨g2, cap2, cur, h2, h3, h4, h5⟩
  · cases h2
  · cases h2
    rcases Nat.lt_or_ge g w.heap.size with hlt | hge
    · exact hlt
    · rw [Array.getElem?_eq_none hge] at h4; cases h4

theorem ret_slice {a : Option Addr} {n m c : Nat} (h : n = m) : Ending.returned (.slice a n c) = .returned (.slice a m c) := by rw [h]
theorem infoU8 : (Tryz.prog.info? 5).map (fun i => (i.zero, i.size, i.bytes)) = some (some (.int .u8 0), 1, 1) := by kernel_rfl

/-- A new block of one cell reads as it was made. -/
theorem one_new (w : World) (x : Value) (t : TypeId) : ∀ j u, [x][j]? = some u → (w.alloc (.cells #[x] t)).cell? ((⟨w.heap.size, 0, none⟩ : Addr).add j) = some u := by
  intro j u hj
  rcases j with _ | j
  · cases hj
    exact (World.cell?_alloc_mark w _ _ (0, 0) 0).trans rfl
  · simp at hj
theorem byte_one (b : UInt8) : ∀ u ∈ [byteV b], u.oneCell' = true := by
  intro u hu
  rw [List.mem_singleton] at hu
  subst hu; rfl
theorem beBytes_le (k n : Nat) : (beBytes k n).length ≤ k := Nat.le_of_eq (beBytes_length k n)

set_option maxHeartbeats 400000 in
set_option maxRecDepth 100000 in
theorem put_any (g cap : Nat) (xs : List UInt8) (k n : Nat) (w : World) (hown : rowAt w g cap xs) (hn : n < 18446744073709551616) (hk : k ≤ 8) (hlen : xs.length ≤ 4096) :
    Calls Tryz.prog 261 #[.slice (some ⟨g, 0, none⟩) xs.length cap, .int .i64 k, .int .u64 n] w (PutOut w g (xs ++ beBytes k n)) := by
  obtain ⟨i0, hi, hz0, hz1, hz2⟩ := info_parts infoU8
  have HOWN := Lib.hid hown; clear hown
  go_enter Tryz.func261, Tryz.ntmps261
  go_wp2
  go_loopw [0, 1] (fun u c wr => ∃ (i : Nat) (ys : List UInt8) (g' cap' : Nat), i ≤ k ∧ u = .slice (some ⟨g', 0, none⟩) ys.length cap' ∧ c = .int .i64 i ∧ Hid (ys ++ beBytes i n = xs ++ beBytes k n) ∧ ys.length ≤ 4096 + k - i ∧ Hid (rowAt wr g' cap' ys) ∧ Hid (w.grownBy wr (some g)) ∧ Hid (g' = g ∨ w.heap.size ≤ g')) (fun _ c _ => (intOf c).toNat)
  case atStart => exact ⟨k, xs, g, cap, Nat.le_refl _, rfl, rfl, Lib.hid rfl, by omega, HOWN, Lib.hid (World.grownBy.refl _ _), Lib.hid (.inl rfl)⟩
  case round =>
    obtain ⟨i, ys, g', cap', hik, rfl, rfl, hys, hyl, hrow, hgr, hor⟩ := hrel
    rcases i with _ | i
    · go_wp2
      go_ret
      have h := hys.out
      rw [beBytes, List.append_nil] at h
      subst h
      exact ⟨_, _, rfl, hrow.out, hgr.out, hor.out⟩
    · obtain ⟨b, hbb⟩ : ∃ b, UInt8.ofNat (n / 256 ^ i % 256) = b := ⟨_, rfl⟩
      have hbi : (n : Int) / 2 ^ (8 * i) % 256 = (b.toNat : Int) := by
        have h1 : b.toNat = n / 256 ^ i % 256 := by rw [← hbb]; simp
        have h2 : (2 : Int) ^ (8 * i) = ((256 ^ i : Nat) : Int) := by rw [Int.pow_mul]; simp
        rw [h1, h2]; simp
      have hys2 : Hid ((ys ++ [b]) ++ beBytes i n = xs ++ beBytes k n) := Lib.hid (by rw [← hys.out, beBytes, ← hbb]; simp)
      clear hys hbb
      have hl63 : ys.length + 1 ≤ maxLen := by unfold maxLen; omega
      go_wp2_with (
        at_builtin; (refine wpList_append_lies _ rfl _ _ 90 rfl 0 5 i0 (.int .u8 0) 1 1 Tryz.underlying90 hi hz0 hz1 hz2 rfl (by decide) _ _ _ rfl (hrow.out.alloc _) ⟨wr.heap.size, 0, none⟩ 1 1 [byteV b] rfl rfl (one_new wr _ _) (byte_one b) (by decide) hl63 (by omega) (Nat.zero_le _) _ rfl ?_; intro g1 cap1 w1 hown1 hgrow1 hat1 hlt1))
      have hg1 : w.grownBy w1 (some g) := by
        refine (hgr.out.trans (World.grownBy_alloc _ _ _)).andThen hgrow1 ?_
        intro j hj
        cases hj
        rcases hor.out with h | h
        · exact .inr (by rw [h])
        · exact .inl h
      have ho1 : g1 = g ∨ w.heap.size ≤ g1 := by
        rcases hat1 with h | h
        · have e : g1 = g' := (Option.some.inj (show some g' = some g1 from h)).symm
          rw [e]; exact hor.out
        · right; rw [h]; have := hgr.out.size; simp; omega
      exact ⟨⟨i, ys ++ [b], g1, cap1, by omega, by simp, rfl, hys2, by simp; omega, Lib.hid (by unfold rowAt; rw [List.length_append, List.map_append]; exact hown1), Lib.hid hg1, Lib.hid ho1⟩, by simp [intOf]⟩

theorem putIn_any (g cap : Nat) (xs : List UInt8) (p k n : Nat) (w : World) (hown : rowAt w g cap xs) (hn : n < 18446744073709551616) (hk : p + k ≤ 8) (hlen : xs.length ≤ 4096) :
    Calls Tryz.prog 292 #[.slice (some ⟨g, 0, none⟩) xs.length cap, .agg #[.int .i64 p, .int .i64 k], .int .u64 n] w (PutOut w g (xs ++ beBytes (p + k) n)) := by
  have HC := Lib.hid (fun w (h1 : rowAt w g cap xs) => put_any g cap xs (p + k) n w h1 hn hk hlen)
  rw [Int.natCast_add] at HC
  have HOWN := Lib.hid hown; clear hown
  go_enter Tryz.func292, Tryz.ntmps292
  go_wp2_with fail
  refine (HC.out _ (HOWN.out.alloc _)).mono ?_
  rintro e w1 ⟨g1, cap1, rfl, hr1, hb1, ho1⟩
  have HR := Lib.hid hr1; have HB := Lib.hid hb1; have HO := Lib.hid ho1; clear hr1 hb1 ho1
  go_wp2
  go_ret
  refine ⟨g1, cap1, ret_slice (by simp), HR.out, (World.grownBy_alloc _ _ _).trans HB.out, ?_⟩
  rcases HO.out with h | h
  · exact .inl h
  · right; simp at h; omega
end Go.Proofs.YtnhlachoimlhhaaGreatDoor
