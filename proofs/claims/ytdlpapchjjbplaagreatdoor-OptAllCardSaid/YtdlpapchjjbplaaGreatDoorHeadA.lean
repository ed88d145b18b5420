/-
  Heads: the value that stands for one, and the small questions on types.
-/
import Derived.Test.YtdlpapchjjbplaaGreatDoorChecked
import Derived.Test.YtdlpapchjjbplaaGreatDoorWords
import Derived.Test.YtdlpapchjjbplaaGreatDoorBel
import Derived.ProofKit
import Derived.LoopTactic
import Derived.Outline
namespace Go.Proofs.YtdlpapchjjbplaaGreatDoor
open Go.ChangeShapes Go.WideShapes Go.ChangeAt Go.RowKit
set_option linter.unusedVariables false

/-- A head's fields. -/
structure Hd where
  src : Int
  dst : Int
  off : Int
  cc : Int
  cs : Int
  sum : Int
  type : Int
  x : Bool
  seq : Nat
  ack : Nat
  service : Nat
  code : Int
  i0 : Nat
  i1 : Nat
  i2 : Nat

def Hd.val (h : Hd) : Value := .agg #[.int .i64 h.src, .int .i64 h.dst, .int .i64 h.off, .int .i64 h.cc, .int .i64 h.cs, .int .i64 h.sum, .int .i64 h.type, .bool h.x, .int .u64 h.seq, .int .u64 h.ack, .int .u32 h.service, .int .i64 h.code, .int .u8 h.i0, .int .u8 h.i1, .int .u8 h.i2]

def isTypeB (t : Int) : Bool := decide (0 ≤ t ∧ t ≤ 9)
def hasAckB (t : Int) : Bool := decide (t = 1 ∨ 3 ≤ t ∧ t ≤ 9)
def sizeN (t : Int) (x : Bool) : Nat :=
  if t < 0 ∨ 9 < t then 0 else if x = false ∧ ¬ (2 ≤ t ∧ t ≤ 4) then 0 else
    (if x = true then 16 else 12) + (if hasAckB t = true then (if x = true then 8 else 4) else 0) + (if t = 0 ∨ t = 1 ∨ t = 7 then 4 else 0)

theorem type_cases (t : Int) : t < 0 ∨ 9 < t ∨ t = 0 ∨ t = 1 ∨ t = 2 ∨ t = 3 ∨ t = 4 ∨ t = 5 ∨ t = 6 ∨ t = 7 ∨ t = 8 ∨ t = 9 := by omega
theorem hasAckB_out {t : Int} (h : t < 0 ∨ 9 < t) : hasAckB t = false := decide_eq_false (by omega)
theorem sizeN_out {t : Int} (x : Bool) (h : t < 0 ∨ 9 < t) : sizeN t x = 0 := if_pos h

theorem hasAck_any (t : Int) (w : World) :
    Calls Tryz.prog 25 #[.int .i64 t] w fun e w' => e = .returned (.bool (hasAckB t)) ∧ w = w' := by
  rcases type_cases t with h | h | rfl | rfl | rfl | rfl | rfl | rfl | rfl | rfl | rfl | rfl
  case inl =>
    have HO := Lib.hid (hasAckB_out (.inl h))
    have hd : decide (0 ≤ t) = false := decide_eq_false (by omega)
    go_enter Tryz.func25, Tryz.ntmps25
    go_wp2
    go_ret
    exact ⟨M.ret_bool (by rw [HO.out]), rfl⟩
  case inr.inl =>
    have HO := Lib.hid (hasAckB_out (.inr h))
    have hd : decide (0 ≤ t) = true := decide_eq_true (by omega)
    have hd2 : decide (t ≤ 9) = false := decide_eq_false (by omega)
    go_enter Tryz.func25, Tryz.ntmps25
    go_wp2
    go_ret
    exact ⟨M.ret_bool (by rw [HO.out]), rfl⟩
  all_goals
    go_enter Tryz.func25, Tryz.ntmps25
    go_wp2
    go_ret
    exact ⟨M.ret_bool (by decide), rfl⟩

theorem size_any (t : Int) (x : Bool) (w : World) :
    Calls Tryz.prog 27 #[.int .i64 t, .bool x] w fun e w' => e = .returned (.int .i64 (sizeN t x)) ∧ w = w' := by
  rcases type_cases t with h | h | rfl | rfl | rfl | rfl | rfl | rfl | rfl | rfl | rfl | rfl
  case inl =>
    have HO := Lib.hid (sizeN_out x (.inl h))
    have hd : decide (0 ≤ t) = false := decide_eq_false (by omega)
    go_enter Tryz.func27, Tryz.ntmps27
    go_wp2
    go_ret
    exact ⟨M.ret_int (by rw [HO.out]; rfl), rfl⟩
  case inr.inl =>
    have HO := Lib.hid (sizeN_out x (.inr h))
    have hd : decide (0 ≤ t) = true := decide_eq_true (by omega)
    have hd2 : decide (t ≤ 9) = false := decide_eq_false (by omega)
    go_enter Tryz.func27, Tryz.ntmps27
    go_wp2
    go_ret
    exact ⟨M.ret_int (by rw [HO.out]; rfl), rfl⟩
  all_goals
    cases x
    all_goals
      go_enter Tryz.func27, Tryz.ntmps27
      go_wp2
      go_ret
      exact ⟨M.ret_int (by decide), rfl⟩

theorem refHasAck_any (t : Int) (w : World) :
    Calls Tryz.prog 26 #[.int .i64 t] w fun e w' => e = .returned (.bool (hasAckB t)) ∧ w = w' := by
  rcases type_cases t with h | h | rfl | rfl | rfl | rfl | rfl | rfl | rfl | rfl | rfl | rfl
  case inl =>
    have HO := Lib.hid (hasAckB_out (.inl h))
    have h0 : (t == 1) = false := by rw [beq_eq_false_iff_ne]; omega
    have hd : decide (3 ≤ t) = false := decide_eq_false (by omega)
    go_enter Tryz.func26, Tryz.ntmps26
    go_wp2
    go_ret
    exact ⟨M.ret_bool (by rw [HO.out]), rfl⟩
  case inr.inl =>
    have HO := Lib.hid (hasAckB_out (.inr h))
    have h0 : (t == 1) = false := by rw [beq_eq_false_iff_ne]; omega
    have hd : decide (3 ≤ t) = true := decide_eq_true (by omega)
    have hd2 : decide (t ≤ 9) = false := decide_eq_false (by omega)
    go_enter Tryz.func26, Tryz.ntmps26
    go_wp2
    go_ret
    exact ⟨M.ret_bool (by rw [HO.out]), rfl⟩
  all_goals
    go_enter Tryz.func26, Tryz.ntmps26
    go_wp2
    go_ret
    exact ⟨M.ret_bool (by decide), rfl⟩

theorem refSize_any (t : Int) (x : Bool) (w : World) :
    Calls Tryz.prog 28 #[.int .i64 t, .bool x] w fun e w' => e = .returned (.int .i64 (sizeN t x)) ∧ w = w' := by
  rcases type_cases t with h | h | rfl | rfl | rfl | rfl | rfl | rfl | rfl | rfl | rfl | rfl
  case inl =>
    have HO := Lib.hid (sizeN_out x (.inl h))
    have hd : decide (t < 0) = true := decide_eq_true (by omega)
    go_enter Tryz.func28, Tryz.ntmps28
    go_wp2
    go_ret
    exact ⟨M.ret_int (by rw [HO.out]; rfl), rfl⟩
  case inr.inl =>
    have HO := Lib.hid (sizeN_out x (.inr h))
    have hd : decide (t < 0) = false := decide_eq_false (by omega)
    have hd2 : decide (9 < t) = true := decide_eq_true (by omega)
    go_enter Tryz.func28, Tryz.ntmps28
    go_wp2
    go_ret
    exact ⟨M.ret_int (by rw [HO.out]; rfl), rfl⟩
  all_goals
    cases x
    all_goals
      go_enter Tryz.func28, Tryz.ntmps28
      go_wp2
      go_ret
      exact ⟨M.ret_int (by decide), rfl⟩

/-- How great a number may be, of 48 bits or of 24. -/
def mostN (x : Bool) : Nat := if x = true then 281474976710656 else 16777216

theorem hasRoom_any (n : Nat) (x : Bool) (hn : n < 18446744073709551616) (w : World) :
    Calls Tryz.prog 88 #[.int .u64 n, .bool x] w fun e w' => e = .returned (.bool (decide (n < mostN x))) ∧ w = w' := by
  have h48 := M.and48
  have h24 := M.and24
  cases x
  · have hm : mostN false = 16777216 := rfl
    rw [hm]
    by_cases h : n < 16777216
    · have hb : (((n : Nat) : Int) == n % 16777216) = true := by rw [beq_iff_eq]; omega
      go_enter Tryz.func88, Tryz.ntmps88
      go_wp2
      go_ret
      exact ⟨M.ret_bool (by first | rfl | (simp; omega)), rfl⟩
    · have hb : (((n : Nat) : Int) == n % 16777216) = false := by rw [beq_eq_false_iff_ne]; omega
      go_enter Tryz.func88, Tryz.ntmps88
      go_wp2
      go_ret
      exact ⟨M.ret_bool (by first | rfl | (simp; omega)), rfl⟩
  · have hm : mostN true = 281474976710656 := rfl
    rw [hm]
    by_cases h : n < 281474976710656
    · have hb : (((n : Nat) : Int) == n % 281474976710656) = true := by rw [beq_iff_eq]; omega
      go_enter Tryz.func88, Tryz.ntmps88
      go_wp2
      go_ret
      exact ⟨M.ret_bool (by first | rfl | (simp; omega)), rfl⟩
    · have hb : (((n : Nat) : Int) == n % 281474976710656) = false := by rw [beq_eq_false_iff_ne]; omega
      go_enter Tryz.func88, Tryz.ntmps88
      go_wp2
      go_ret
      exact ⟨M.ret_bool (by first | rfl | (simp; omega)), rfl⟩
end Go.Proofs.YtdlpapchjjbplaaGreatDoor
