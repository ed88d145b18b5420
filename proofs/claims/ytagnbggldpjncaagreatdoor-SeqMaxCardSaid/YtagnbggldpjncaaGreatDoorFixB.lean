/-
  What the roots and quotients of package fix and of the document's own answers come to.
-/
import Derived.Test.YtagnbggldpjncaaGreatDoorFixA
import Derived.Test.YtagnbggldpjncaaGreatDoorShelf
import Derived.Test.YtagnbggldpjncaaGreatDoorKnuth
import Derived.LoopTactic
import Derived.Outline
namespace Go.Proofs.YtagnbggldpjncaaGreatDoor
open Go.ChangeShapes Go.WideShapes Go.ChangeAt Go.RowKit
set_option linter.unusedVariables false

theorem add64_run (x y : Nat) (hx : x < 18446744073709551616) (hy : y < 18446744073709551616) (w : World) :
    (callFunc 51 #[.int .u64 x, .int .u64 y, .int .u64 0]).run Tryz.prog w =
      .ok (.value (.tuple #[.int .u64 (((x + y) % 18446744073709551616 : Nat) : Int), .int .u64 (((x + y) / 18446744073709551616 : Nat) : Int)])) w := by
  have h := run_add64 x y 0 (by omega) (by omega) (by omega) (by omega) (P := Tryz.prog) (w := w)
  rw [run_callFunc_extern Tryz.func51 (by kernel_rfl) (by kernel_rfl) (by kernel_rfl) (e := add64Entry) (by kernel_rfl)]
  erw [h]
  simp only [Result.andThen]
  congr 5 <;> omega

theorem fixSum_any (a b : Nat) (ha : a < 18446744073709551616) (hb : b < 18446744073709551616) (w : World) :
    Calls Tryz.prog 16 #[.int .u64 a, .int .u64 b] w fun e w' => e = .returned (.int .u64 (M.addT a b)) ∧ w = w' := by
  have he : M.addT a b = if a + b < 18446744073709551616 then a + b else 18446744073709551615 := rfl
  have HE := Lib.hid he; clear he
  have hr := add64_run a b ha hb
  by_cases h : a + b < 18446744073709551616
  · have h1 : (((a + b) / 18446744073709551616 : Nat) : Int) = 0 := by omega
    have h2 : (((a + b) % 18446744073709551616 : Nat) : Int) = ((a + b : Nat) : Int) := by omega
    rw [h1, h2] at hr
    go_enter Tryz.func16, Tryz.ntmps16
    go_wp2
    go_ret
    exact ⟨M.ret_int (by rw [HE.out, if_pos (by omega)]; rfl), rfl⟩
  · have h1 : (((a + b) / 18446744073709551616 : Nat) : Int) = 1 := by omega
    rw [h1] at hr
    go_enter Tryz.func16, Tryz.ntmps16
    go_wp2
    go_ret
    exact ⟨M.ret_int (by rw [HE.out, if_neg (by omega)]; simp), rfl⟩

theorem refMul_any (a b : Nat) (ha : a < 18446744073709551616) (hb : b < 18446744073709551616) (w : World) :
    Calls Tryz.prog 21 #[.int .u64 a, .int .u64 b] w fun e w' => e = .returned (.int .u64 (M.mulT a b)) ∧ w = w' := by
  have he : M.mulT a b = if a * b < 18446744073709551616 then a * b else 18446744073709551615 := rfl
  have HE := Lib.hid he; clear he
  have hw := wide_any a b ha hb w
  have hd := Nat.div_add_mod (a * b) 18446744073709551616
  have hl := Nat.mod_lt (a * b) (show 0 < 18446744073709551616 by decide)
  generalize a * b = p at *
  generalize p / 18446744073709551616 = q at *
  generalize p % 18446744073709551616 = r at *
  have HD := Lib.hid hd; clear hd
  have HW := Lib.hid hw; clear hw
  by_cases h : 0 < q
  · go_enter Tryz.func21, Tryz.ntmps21
    go_wp2_with fail
    refine HW.out.mono ?_
    rintro e w' ⟨rfl, rfl⟩
    go_wp2
    go_ret
    exact ⟨M.ret_int (by have := HD.out; rw [HE.out, if_neg (by omega)]; rfl), rfl⟩
  · go_enter Tryz.func21, Tryz.ntmps21
    go_wp2_with fail
    refine HW.out.mono ?_
    rintro e w' ⟨rfl, rfl⟩
    go_wp2
    go_ret
    exact ⟨M.ret_int (by have := HD.out; rw [HE.out, if_pos (by omega)]; first | omega | (simp; omega)), rfl⟩

theorem productLen_any (h l : Nat) (hh : h < 18446744073709551616) (hl : l < 18446744073709551616) (w : World) :
    Calls Tryz.prog 54 #[.int .u64 h, .int .u64 l] w fun e w' => e = .returned (.int .i64 (M.plen h l)) ∧ w = w' := by
  have hb1 := (M.bitLen_spec h hh).2.1
  have hb2 := (M.bitLen_spec l hl).2.1
  by_cases h0 : h = 0
  · subst h0
    go_enter Tryz.func54, Tryz.ntmps54
    go_wp2_with fail
    refine (Tryz.bits_Len64 l _ (by omega) (by omega)).mono ?_
    rintro e w' ⟨rfl, rfl⟩
    go_wp2
    go_ret
    exact ⟨M.ret_int (by simp [M.plen]), rfl⟩
  · have h1 : (((h : Nat) : Int) != 0) = true := by rw [bne_iff_ne]; omega
    have H0 := Lib.hid h0; clear h0
    go_enter Tryz.func54, Tryz.ntmps54
    go_wp2_with fail
    refine (Tryz.bits_Len64 h _ (by omega) (by omega)).mono ?_
    rintro e w' ⟨rfl, rfl⟩
    go_wp2
    go_ret
    exact ⟨M.ret_int (by simp [M.plen, H0.out]), rfl⟩

theorem mul64_at {a b q r : Nat} (ha : a < 18446744073709551616) (hb : b < 18446744073709551616) (h : a * b = q * 18446744073709551616 + r) (hr : r < 18446744073709551616) (w : World) :
    Calls Tryz.prog 52 #[.int .u64 a, .int .u64 b] w fun e w' => e = .returned (.tuple #[.int .u64 q, .int .u64 r]) ∧ w = w' := by
  have := mul64_any a b ha hb w
  rw [M.half_hi h hr, M.half_lo h hr] at this
  exact this
theorem wide_at {a b q r : Nat} (ha : a < 18446744073709551616) (hb : b < 18446744073709551616) (h : a * b = q * 18446744073709551616 + r) (hr : r < 18446744073709551616) (w : World) :
    Calls Tryz.prog 28 #[.int .u64 a, .int .u64 b] w fun e w' => e = .returned (.tuple #[.int .u64 q, .int .u64 r]) ∧ w = w' := by
  have := wide_any a b ha hb w
  rw [M.half_hi h hr, M.half_lo h hr] at this
  exact this
end Go.Proofs.YtagnbggldpjncaaGreatDoor
