/-
  Which heads may be.
-/
import Derived.Test.YtdlpapchjjbplaaGreatDoorHeadA
import Derived.Test.YtdlpapchjjbplaaGreatDoorArr3
namespace Go.Proofs.YtdlpapchjjbplaaGreatDoor
open Go.ChangeShapes Go.WideShapes Go.ChangeAt Go.RowKit
set_option linter.unusedVariables false

def btw (l n h : Int) : Bool := decide (l ≤ n) && decide (n ≤ h)
theorem btw_true {l n h : Int} : btw l n h = true ↔ l ≤ n ∧ n ≤ h := by simp [btw]

theorem between_any (l n h : Int) (w : World) :
    Calls Tryz.prog 54 #[.int .i64 l, .int .i64 n, .int .i64 h] w fun e w' => e = .returned (.bool (btw l n h)) ∧ w = w' := by
  have HB : Hid (btw l n h = (decide (l ≤ n) && decide (n ≤ h))) := Lib.hid rfl
  by_cases h1 : l ≤ n
  · have hd := decide_eq_true h1
    go_enter Tryz.func54, Tryz.ntmps54
    go_wp2
    go_ret
    exact ⟨M.ret_bool (by rw [HB.out, hd]; simp), rfl⟩
  · have hd := decide_eq_false h1
    go_enter Tryz.func54, Tryz.ntmps54
    go_wp2
    go_ret
    exact ⟨M.ret_bool (by rw [HB.out, hd]; simp), rfl⟩

def roomB (n : Nat) (x : Bool) : Bool := decide (n < mostN x)
theorem hasRoomB_any (n : Nat) (x : Bool) (hn : n < 18446744073709551616) (w : World) :
    Calls Tryz.prog 88 #[.int .u64 n, .bool x] w fun e w' => e = .returned (.bool (roomB n x)) ∧ w = w' := hasRoom_any n x hn w

def Hd.numbersB (h : Hd) : Bool := (hasAckB h.type || decide (h.ack = 0)) && (roomB h.seq h.x && roomB h.ack h.x)
def serviceB (t : Int) : Bool := decide (t = 0 ∨ t = 1)
def codeB (t : Int) : Bool := decide (t = 7)
def Hd.extrasB (h : Hd) : Bool := (serviceB h.type || decide (h.service = 0)) && (if codeB h.type = true then btw 0 h.code 255 else decide (h.code = 0 ∧ h.i0 = 0 ∧ h.i1 = 0 ∧ h.i2 = 0))

theorem hasService_any (t : Int) (w : World) :
    Calls Tryz.prog 59 #[.int .i64 t] w fun e w' => e = .returned (.bool (serviceB t)) ∧ w = w' := by
  have HB : Hid (serviceB t = decide (t = 0 ∨ t = 1)) := Lib.hid rfl
  by_cases h : t = 0
  · subst h
    go_enter Tryz.func59, Tryz.ntmps59
    go_wp2
    go_ret
    exact ⟨M.ret_bool (by decide), rfl⟩
  · have h0 : (t == 0) = false := by rw [beq_eq_false_iff_ne]; exact h
    go_enter Tryz.func59, Tryz.ntmps59
    go_wp2
    go_ret
    exact ⟨M.ret_bool (by rw [HB.out, Bool.eq_iff_iff]; simp; omega), rfl⟩
theorem hasCode_any (t : Int) (w : World) :
    Calls Tryz.prog 60 #[.int .i64 t] w fun e w' => e = .returned (.bool (codeB t)) ∧ w = w' := by
  have HB : Hid (codeB t = decide (t = 7)) := Lib.hid rfl
  go_enter Tryz.func60, Tryz.ntmps60
  go_wp2
  go_ret
  exact ⟨M.ret_bool (by rw [HB.out, Bool.eq_iff_iff]; simp), rfl⟩

theorem numbersMay_any (h : Hd) (w : World) (h1 : h.seq < 18446744073709551616) (h2 : h.ack < 18446744073709551616) :
    Calls Tryz.prog 55 #[h.val] w fun e w' => e = .returned (.bool h.numbersB) ∧ Below w.heap.size w w' := by
  have HB : Hid (h.numbersB = ((hasAckB h.type || decide (h.ack = 0)) && (roomB h.seq h.x && roomB h.ack h.x))) := Lib.hid rfl
  unfold Hd.val
  by_cases h0 : h.ack = 0
  · have hb : ((h.ack : Int) != 0) = false := by rw [bne_eq_false_iff_eq]; omega
    have H0 := Lib.hid (decide_eq_true h0); clear h0
    go_enter Tryz.func55, Tryz.ntmps55
    go_wp2_with (first
      | (go_at_call 25; refine (hasAck_any _ _).mono ?_; rintro e w' ⟨rfl, rfl⟩)
      | (go_at_call 88; refine (hasRoomB_any _ _ (by assumption) _).mono ?_; rintro e w' ⟨rfl, rfl⟩))
    all_goals go_ret
    all_goals refine ⟨M.ret_bool ?_, (Below.refl _ _).alloc (Nat.le_refl _) _⟩
    all_goals rw [HB.out, H0.out]
    all_goals simp [*]
  · have hb : ((h.ack : Int) != 0) = true := by rw [bne_iff_ne]; omega
    have H0 := Lib.hid (decide_eq_false h0); clear h0
    go_enter Tryz.func55, Tryz.ntmps55
    go_wp2_with (first
      | (go_at_call 25; refine (hasAck_any _ _).mono ?_; rintro e w' ⟨rfl, rfl⟩)
      | (go_at_call 88; refine (hasRoomB_any _ _ (by assumption) _).mono ?_; rintro e w' ⟨rfl, rfl⟩))
    all_goals go_ret
    all_goals refine ⟨M.ret_bool ?_, (Below.refl _ _).alloc (Nat.le_refl _) _⟩
    all_goals rw [HB.out, H0.out]
    all_goals simp [*]

set_option maxRecDepth 100000 in
theorem extrasMay_any (h : Hd) (w : World) :
    Calls Tryz.prog 56 #[h.val] w fun e w' => e = .returned (.bool h.extrasB) ∧ Below w.heap.size w w' := by
  have HB : Hid (h.extrasB = ((serviceB h.type || decide (h.service = 0)) && (if codeB h.type = true then btw 0 h.code 255 else decide (h.code = 0 ∧ h.i0 = 0 ∧ h.i1 = 0 ∧ h.i2 = 0)))) := Lib.hid rfl
  have he := fun w => eql3 h.i0 h.i1 h.i2 0 0 0 w
  obtain ⟨sb, hsb⟩ : ∃ sb, decide (h.service = 0) = sb := ⟨_, rfl⟩
  have hsn : ((h.service : Int) != 0) = !sb := by
    cases sb
    · have := of_decide_eq_false hsb; simp; omega
    · have := of_decide_eq_true hsb; simp; omega
  obtain ⟨cb, hcb⟩ : ∃ cb, decide (h.code = 0) = cb := ⟨_, rfl⟩
  have hcn : (h.code == 0) = cb := by rw [← hcb, Bool.eq_iff_iff]; simp
  obtain ⟨ib, hib⟩ : ∃ ib, decide (h.i0 = 0 ∧ h.i1 = 0 ∧ h.i2 = 0) = ib := ⟨_, rfl⟩
  have hin : ((h.i0 : Int) == 0 && ((h.i1 : Int) == 0 && (h.i2 : Int) == 0)) = ib := by rw [← hib, Bool.eq_iff_iff]; simp
  have hall : decide (h.code = 0 ∧ h.i0 = 0 ∧ h.i1 = 0 ∧ h.i2 = 0) = (cb && ib) := by rw [← hcb, ← hib, Bool.eq_iff_iff]; simp
  rw [hsb, hall] at HB
  rw [hin] at he
  clear hsb hcb hib hin hall
  unfold Hd.val
  cases sb <;> cases cb <;> cases ib <;> simp only [Bool.not_true, Bool.not_false] at hsn
  all_goals
    go_enter Tryz.func56, Tryz.ntmps56
    go_wp2_with (first
      | (go_at_call 59; refine (hasService_any _ _).mono ?_; rintro e w' ⟨rfl, rfl⟩)
      | (go_at_call 60; refine (hasCode_any _ _).mono ?_; rintro e w' ⟨rfl, rfl⟩)
      | (go_at_call 54; refine (between_any _ _ _ _).mono ?_; rintro e w' ⟨rfl, rfl⟩))
    all_goals go_ret
    all_goals refine ⟨M.ret_bool ?_, (Below.refl _ _).alloc (Nat.le_refl _) _⟩
    all_goals rw [HB.out]
    all_goals simp [*]

/-- May a head be? -/
def Hd.mayB (h : Hd) : Bool := decide (sizeN h.type h.x ≠ 0) && (btw 0 h.src 65535 && (btw 0 h.dst 65535 && (btw (sizeN h.type h.x / 4 : Nat) h.off 255 && (btw 0 h.cc 15 && (btw 0 h.cs 15 && (btw 0 h.sum 65535 && (h.numbersB && h.extrasB)))))))

theorem bcell {W w1 : World} (hb : Below W.heap.size W w1) : (∀ b o, b < W.heap.size → w1.cell? ⟨b, o, none⟩ = W.cell? ⟨b, o, none⟩) ∧ (∀ b o, b < W.heap.size → w1.frozen? ⟨b, o, none⟩ = W.frozen? ⟨b, o, none⟩) :=
  ⟨fun b o h => hb.cell (p := ⟨b, o, none⟩) h, fun b o h => hb.frozen (p := ⟨b, o, none⟩) h⟩

theorem sizeN_le (t : Int) (x : Bool) : sizeN t x ≤ 28 := by
  unfold sizeN; split
  · omega
  · split
    · omega
    · (repeat' split) <;> omega

set_option maxHeartbeats 1000000 in
theorem may_any (h : Hd) (w : World) (h1 : h.seq < 18446744073709551616) (h2 : h.ack < 18446744073709551616) :
    Calls Tryz.prog 23 #[h.val] w fun e w' => e = .returned (.bool h.mayB) ∧ Below w.heap.size w w' := by
  have HM : Hid (h.mayB = (decide (sizeN h.type h.x ≠ 0) && (btw 0 h.src 65535 && (btw 0 h.dst 65535 && (btw (sizeN h.type h.x / 4 : Nat) h.off 255 && (btw 0 h.cc 15 && (btw 0 h.cs 15 && (btw 0 h.sum 65535 && (h.numbersB && h.extrasB))))))))) := Lib.hid rfl
  have HNM := Lib.hid (fun w => numbersMay_any h w h1 h2)
  have HEM := Lib.hid (fun w => extrasMay_any h w)
  unfold Hd.val at HNM HEM ⊢
  have hs := sizeN_le h.type h.x
  have HSZ := Lib.hid (fun w => size_any h.type h.x w)
  generalize sizeN h.type h.x = n at *
  rw [Int.natCast_ediv] at HM
  generalize h.numbersB = nb at *
  generalize h.extrasB = eb at *
  go_enter Tryz.func23, Tryz.ntmps23
  go_wp2_with (first
    | (go_at_call 27; refine (HSZ.out _).mono ?_; rintro e w' ⟨rfl, rfl⟩)
    | (go_at_call 54; refine (between_any _ _ _ _).mono ?_; rintro e w' ⟨rfl, rfl⟩)
    | (go_at_call 55; refine (HNM.out _).mono ?_; rintro e w1 ⟨rfl, hb1⟩; obtain ⟨hc1, hf1⟩ := bcell hb1)
    | (go_at_call 56; refine (HEM.out _).mono ?_; rintro e w2 ⟨rfl, hb2⟩))
  all_goals go_ret
  all_goals refine ⟨M.ret_bool (by rw [HM.out]; simp [*]), ?_⟩
  all_goals first
    | exact bel_alloc _ _
    | exact bel_trans (bel_alloc _ _) hb1
    | exact bel_trans (bel_trans (bel_alloc _ _) hb1) hb2
end Go.Proofs.YtdlpapchjjbplaaGreatDoor
