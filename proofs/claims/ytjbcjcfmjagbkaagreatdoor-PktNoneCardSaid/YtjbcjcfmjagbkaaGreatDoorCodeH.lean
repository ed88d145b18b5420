/-
  A number to base sixteen, as the laws write it.
-/
import Derived.Test.YtjbcjcfmjagbkaaGreatDoorCodeG
namespace Go.Proofs.YtjbcjcfmjagbkaaGreatDoor
open Go.ChangeShapes Go.WideShapes Go.ChangeAt Go.RowKit
set_option linter.unusedVariables false
def hexL : List UInt8 := [48, 49, 50, 51, 52, 53, 54, 55, 56, 57, 97, 98, 99, 100, 101, 102]
theorem hex_at : ∀ d : Fin 16, (hexL.take (d.val + 1)).drop d.val = [M.dg d.val] := by decide +kernel
theorem hex_slice (d : Nat) (hd : d < 16) (a b : Int) (ha : a = (d : Int)) (hb : b = (d : Int) + 1) (W : World) :
    (Instr.slice 9 (.string ⟨#[48, 49, 50, 51, 52, 53, 54, 55, 56, 57, 97, 98, 99, 100, 101, 102]⟩) (some (.int .u32 a)) (some (.int .u32 b)) none).run Tryz.prog W = .ok (.string (str [M.dg d])) W := by
  have e := str_extract hexL d (d + 1)
  rw [hex_at ⟨d, hd⟩] at e
  subst ha hb
  rw [← e]
  show (Instr.slice 9 (.string (str hexL)) (some (.int .u32 (d : Int))) (some (.int .u32 ((d + 1 : Nat) : Int))) none).run Tryz.prog W = _
  rw [run_slice_string W 9 (str hexL) .u32 .u32 _ _ Tryz.underlying9 (by omega) (by omega) (by show ((d + 1 : Nat) : Int) ≤ (16 : Nat); omega)]
  rfl

set_option maxHeartbeats 4000000 in
set_option maxRecDepth 100000 in
theorem hex_any (n : Nat) (hn : n < 4294967296) (w : World) :
    Calls Tryz.prog 32 #[.int .u32 n] w fun e w' => e = .returned (.string (str (M.dgs 16 8 n))) ∧ Below w.heap.size w w' := by
  have HSL := Lib.hid hex_slice
  go_enter Tryz.func32, Tryz.ntmps32
  go_wp2
  go_loop [0, 3] (fun u v => ∃ (m f : Nat) (s : List UInt8), u = .int .u32 (m : Int) ∧ v = .string (str s) ∧ m < 16 ^ (f + 1) ∧ s.length + f ≤ 7 ∧ Hid (M.dgs 16 (f + 1) m ++ s = M.dgs 16 8 n)) (fun u _ => (intOf u).toNat)
  case atStart => exact ⟨n, 7, [], rfl, rfl, by omega, by simp, Lib.hid (List.append_nil _)⟩
  case round =>
    obtain ⟨m, f, s, rfl, rfl, hm, hf, hd⟩ := hrel
    have hmb : m < 4294967296 := by
      have : 16 ^ (f + 1) ≤ 16 ^ 8 := Nat.pow_le_pow_right (by omega) (by omega)
      omega
    have HDS : Hid (M.dgs 16 (f + 1) m = if m < 16 then [M.dg m] else M.dgs 16 f (m / 16) ++ [M.dg (m % 16)]) := Lib.hid rfl
    have hs := HSL.out (m % 16) (Nat.mod_lt _ (by omega)) ((m : Int) % 16) ((m : Int) % 16 + 1) (by omega) (by omega)
    have hsa : str [M.dg (m % 16)] ++ str s = str (M.dg (m % 16) :: s) := str_append _ _
    have hw1 : IntKind.u32.wrap ((m : Int) % 16 + 1) = (m : Int) % 16 + 1 := by rw [IntKind.wrap_u32]; omega
    have HM := Lib.hid hm
    have hcat : ¬ 9223372036854775807 < (str [M.dg (m % 16)]).size + (str s).size := by rw [str_size, str_size]; simp; omega
    have HF := Lib.hid hf
    clear hm hf
    by_cases h16 : m < 16
    · have d1 : ((m : Int) / 16 == 0) = true := beq_iff_eq.2 (by omega)
      have HR : Hid (M.dg (m % 16) :: s = M.dgs 16 8 n) := Lib.hid (by rw [← hd.out, HDS.out, if_pos h16, Nat.mod_eq_of_lt h16]; rfl)
      clear hd HDS
      go_wp2
      go_ret
      exact ⟨by rw [HR.out]; rfl, Below.refl _ _⟩
    · have d1 : ((m : Int) / 16 == 0) = false := beq_eq_false_iff_ne.2 (by omega)
      obtain ⟨g, rfl⟩ : ∃ g, f = g + 1 := by
        cases f with
        | zero => have := HM.out; omega
        | succ g => exact ⟨g, rfl⟩
      have hmg : m / 16 < 16 ^ (g + 1) := by
        have := HM.out
        rw [Nat.pow_succ] at this
        exact (Nat.div_lt_iff_lt_mul (by omega)).2 this
      have HG := Lib.hid hmg
      have HR : Hid (M.dgs 16 (g + 1) (m / 16) ++ M.dg (m % 16) :: s = M.dgs 16 8 n) := Lib.hid (by rw [← hd.out, HDS.out, if_neg h16, List.append_assoc]; rfl)
      clear hd HDS hmg
      go_wp2
      refine ⟨⟨m / 16, g, M.dg (m % 16) :: s, by go_num, rfl, HG.out, by have := HF.out; simp; omega, HR⟩, ?_⟩
      show ((m : Int) / 16).toNat < (m : Int).toNat
      omega
end Go.Proofs.YtjbcjcfmjagbkaaGreatDoor
