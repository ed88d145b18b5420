/-
  What is wrong with bytes as a head.
-/
import Derived.Test.YtdlpapchjjbplaaGreatDoorHeadI
namespace Go.Proofs.YtdlpapchjjbplaaGreatDoor
open Go.ChangeShapes Go.WideShapes Go.ChangeAt Go.RowKit
set_option linter.unusedVariables false

def byteAt (l : List UInt8) (i : Nat) : Nat := (l.getD i 0).toNat
theorem byteAt_lt (l : List UInt8) (i : Nat) : byteAt l i < 256 := (l.getD i 0).toNat_lt
def hType (l : List UInt8) : Nat := byteAt l 8 / 2 % 16
def hX (l : List UInt8) : Bool := decide (byteAt l 8 % 2 = 1)
/-- The first fault of bytes as a packet with a head, by its number; 0: none. -/
def faultN (l : List UInt8) : Nat :=
  if l.length < 12 then 1 else if 9 < hType l then 2 else if sizeN (hType l) (hX l) = 0 then 3 else if l.length < sizeN (hType l) (hX l) then 1
  else if byteAt l 4 < sizeN (hType l) (hX l) / 4 ∨ l.length < byteAt l 4 * 4 then 4 else 0

theorem isType_any (t : Nat) (w : World) :
    Calls Tryz.prog 57 #[.int .i64 t] w fun e w' => e = .returned (.bool (decide (t ≤ 9))) ∧ w = w' := by
  by_cases h : t ≤ 9
  · rw [decide_eq_true h]
    go_enter Tryz.func57, Tryz.ntmps57
    go_wp2
    go_ret
    exact ⟨M.ret_bool (by simp; omega), rfl⟩
  · rw [decide_eq_false h]
    go_enter Tryz.func57, Tryz.ntmps57
    go_wp2
    go_ret
    exact ⟨M.ret_bool (by simp; omega), rfl⟩

set_option maxHeartbeats 1000000 in
theorem fault_any (l : List UInt8) (hl : l.length ≤ 9223372036854775807) (w : World) :
    Calls Tryz.prog 61 #[.string (str l)] w fun e w' => e = .returned (.int .i64 (faultN l)) ∧ ∃ n, w' = w.drewN n := by
  have hss : (str l).size = l.length := rfl
  have HF : Hid (faultN l = if l.length < 12 then 1 else if 9 < hType l then 2 else if sizeN (hType l) (hX l) = 0 then 3 else if l.length < sizeN (hType l) (hX l) then 1
    else if byteAt l 4 < sizeN (hType l) (hX l) / 4 ∨ l.length < byteAt l 4 * 4 then 4 else 0) := Lib.hid rfl
  by_cases h12 : l.length < 12
  · rw [if_pos h12] at HF
    obtain ⟨s, hs⟩ : ∃ s, str l = s := ⟨_, rfl⟩
    rw [hs] at hss ⊢
    have hd : decide (s.size < 12) = true := decide_eq_true (by omega)
    clear hs
    go_enter Tryz.func61, Tryz.ntmps61
    go_wp2
    go_ret
    exact ⟨M.ret_int (by rw [HF.out]; simp), 0, rfl⟩
  rw [if_neg h12] at HF
  have e8 : ∀ h : 8 < (str l).size, ((str l)[8]'h).toNat = byteAt l 8 := by
    intro h
    have h8 : 8 < l.length := h
    show (l[8]'h8).toNat = _
    unfold byteAt; simp [h8]
  have e4 : ∀ h : 4 < (str l).size, ((str l)[4]'h).toNat = byteAt l 4 := by
    intro h
    have h8 : 4 < l.length := h
    show (l[4]'h8).toNat = _
    unfold byteAt; simp [h8]
  have b8 := byteAt_lt l 8
  have b4 := byteAt_lt l 4
  have HT := Lib.hid (fun w => typeOf_any (byteAt l 8) (by omega) w)
  have ht : byteAt l 8 / 2 % 16 = hType l := rfl
  have hx : decide (byteAt l 8 % 2 = 1) = hX l := rfl
  have htl : hType l < 16 := Nat.mod_lt _ (by decide)
  rw [ht, hx] at HT
  have HSZ := Lib.hid (fun w => size_any (hType l) (hX l) w)
  have hsn := sizeN_le (hType l) (hX l)
  obtain ⟨s, hs⟩ : ∃ s, str l = s := ⟨_, rfl⟩
  rw [hs] at hss ⊢
  simp only [hs] at e8 e4
  have h12s : 12 ≤ s.size := by omega
  rw [← hss] at HF
  clear hss h12
  have h8s : 8 < s.size := by omega
  have h4s : 4 < s.size := by omega
  have e8' : ((s[8]'h8s).toNat : Int) = (byteAt l 8 : Int) := by rw [e8 h8s]
  have e4' : ((s[4]'h4s).toNat : Int) = (byteAt l 4 : Int) := by rw [e4 h4s]
  clear hs e8 e4 ht hx
  generalize byteAt l 8 = n8 at *
  generalize byteAt l 4 = n4 at *
  generalize hType l = t at *
  generalize hX l = x at *
  generalize sizeN (t : Int) x = z at *
  have HIT := Lib.hid (fun w => isType_any t w)
  go_enter Tryz.func61, Tryz.ntmps61
  go_upto_region 4 with (go_at_call 64; refine (HT.out _).mono ?_; rintro e w1 ⟨rfl, rfl⟩)
  go_cut [5, 6] (fun a b wx => a = .int .i64 z ∧ b = .int .i64 n4 ∧ ∃ n, wx = w.drewN n)
  case first =>
    go_region_with (go_at_call 27; refine (HSZ.out _).mono ?_; rintro e w1 ⟨rfl, rfl⟩)
    all_goals (go_wp2_with fail; go_meet; exact ⟨rfl, by rw [IntWalk.i64_in _ ⟨by omega, by omega⟩], 1, rfl⟩)
  case rest =>
    obtain ⟨rfl, rfl, n, rfl⟩ := hcut
    by_cases ht : t ≤ 9
    · rw [decide_eq_true ht] at HIT
      rw [if_neg (by omega)] at HF
      clear ht
      by_cases hz : z = 0
      · subst hz
        rw [if_pos rfl] at HF
        go_wp2_with (go_at_call 57; refine (HIT.out _).mono ?_; rintro e w1 ⟨rfl, rfl⟩)
        go_ret
        exact ⟨M.ret_int (by rw [HF.out]; simp), n, rfl⟩
      · rw [if_neg hz] at HF
        have hzb : (((z : Nat) : Int) == 0) = false := by rw [beq_eq_false_iff_ne]; omega
        clear hz
        by_cases hsz : s.size < z
        · rw [if_pos hsz] at HF
          have hd := decide_eq_true hsz
          go_wp2_with (go_at_call 57; refine (HIT.out _).mono ?_; rintro e w1 ⟨rfl, rfl⟩)
          go_ret
          exact ⟨M.ret_int (by rw [HF.out]; simp), n, rfl⟩
        · rw [if_neg hsz] at HF
          have hd := decide_eq_false hsz
          by_cases h41 : n4 < z / 4
          · rw [if_pos (.inl h41)] at HF
            have hd2 := decide_eq_true (p := (n4 : Int) < (z : Int) / 4) (by omega)
            have hd2n := decide_eq_true h41
            go_wp2_with (go_at_call 57; refine (HIT.out _).mono ?_; rintro e w1 ⟨rfl, rfl⟩)
            go_ret
            exact ⟨M.ret_int (by rw [HF.out]; simp), n, rfl⟩
          · have hd2 := decide_eq_false (p := (n4 : Int) < (z : Int) / 4) (by omega)
            by_cases h42 : s.size < n4 * 4
            · rw [if_pos (.inr h42)] at HF
              have hd3 := decide_eq_true (p := (s.size : Int) < (n4 : Int) * 4) (by omega)
              go_wp2_with (go_at_call 57; refine (HIT.out _).mono ?_; rintro e w1 ⟨rfl, rfl⟩)
              go_ret
              exact ⟨M.ret_int (by rw [HF.out]; simp), n, rfl⟩
            · rw [if_neg (by omega)] at HF
              have hd3 := decide_eq_false (p := (s.size : Int) < (n4 : Int) * 4) (by omega)
              go_wp2_with (go_at_call 57; refine (HIT.out _).mono ?_; rintro e w1 ⟨rfl, rfl⟩)
              go_ret
              exact ⟨M.ret_int (by rw [HF.out]; simp), n, rfl⟩
    · rw [decide_eq_false ht] at HIT
      rw [if_pos (by omega)] at HF
      go_wp2_with (go_at_call 57; refine (HIT.out _).mono ?_; rintro e w1 ⟨rfl, rfl⟩)
      go_ret
      exact ⟨M.ret_int (by rw [HF.out]; simp), n, rfl⟩
end Go.Proofs.YtdlpapchjjbplaaGreatDoor
