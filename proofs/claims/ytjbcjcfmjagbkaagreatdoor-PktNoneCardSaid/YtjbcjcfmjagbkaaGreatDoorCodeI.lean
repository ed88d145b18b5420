/-
  A number to base ten, as the document writes it.
-/
import Derived.Test.YtjbcjcfmjagbkaaGreatDoorCodeH
namespace Go.Proofs.YtjbcjcfmjagbkaaGreatDoor
open Go.ChangeShapes Go.WideShapes Go.ChangeAt Go.RowKit
set_option linter.unusedVariables false
theorem dg_dec : ∀ d : Fin 10, (M.dg d.val).toNat = 48 + d.val := by decide +kernel

set_option maxHeartbeats 4000000 in
set_option maxRecDepth 100000 in
theorem decimal_any (n : Nat) (hn : n < 4294967296) (w : World) :
    Calls Tryz.prog 54 #[.int .u64 n] w fun e w' => e = .returned (.string (str (M.dgs 10 10 n))) ∧ Below w.heap.size w w' := by
  go_enter Tryz.func54, Tryz.ntmps54
  go_wp2
  go_loopw [0, 3] (fun u v wr => ∃ (m f : Nat) (s : List UInt8), u = .int .u64 (m : Int) ∧ v = .string (str s) ∧ m < 10 ^ (f + 1) ∧ m < 4294967296 ∧ s.length + f ≤ 9 ∧ Hid (M.dgs 10 (f + 1) m ++ s = M.dgs 10 10 n) ∧ Below w.heap.size w wr) (fun u _ _ => (intOf u).toNat)
  case atStart => exact ⟨n, 9, [], rfl, rfl, by omega, hn, by simp, Lib.hid (List.append_nil _), Below.refl _ _⟩
  case round =>
    obtain ⟨m, f, s, rfl, rfl, hm, hm4, hf, hd, hb⟩ := hrel
    have HDS : Hid (M.dgs 10 (f + 1) m = if m < 10 then [M.dg m] else M.dgs 10 f (m / 10) ++ [M.dg (m % 10)]) := Lib.hid rfl
    have hlt : m % 10 < 10 := Nat.mod_lt _ (by decide)
    have hsa : str [M.dg (m % 10)] ++ str s = str (M.dg (m % 10) :: s) := str_append _ _
    have hw1 : IntKind.u64.wrap (48 + (m : Int) % 10) = 48 + (m : Int) % 10 := by rw [IntKind.wrap_u64]; omega
    have hw2 : IntKind.u8.wrap (48 + (m : Int) % 10) = 48 + (m : Int) % 10 := by rw [IntKind.wrap_u8]; omega
    have hconv : (convert 36 9 (.slice (some ⟨wr.heap.size, 0, none⟩) 1 1)).run Tryz.prog (wr.alloc (.cells #[.int .u8 (48 + (m : Int) % 10)] 5)) = .ok (.string (str [M.dg (m % 10)])) (wr.alloc (.cells #[.int .u8 (48 + (m : Int) % 10)] 5)) := by
      refine run_convert_bytes_back (wr.alloc (.cells #[.int .u8 (48 + (m : Int) % 10)] 5)) 36 9 5 ⟨wr.heap.size, 0, none⟩ 1 [M.dg (m % 10)] Tryz.underlying36 Tryz.underlying5 Tryz.underlying9 (fun j hj => ?_)
      obtain rfl : j = 0 := by simpa using hj
      have e := dg_dec ⟨m % 10, hlt⟩
      exact (World.cell?_alloc_mark wr _ _ (0, 0) 0).trans (by simp [e])
    have hcat : ¬ 9223372036854775807 < (str [M.dg (m % 10)]).size + (str s).size := by rw [str_size, str_size]; simp; omega
    have HM := Lib.hid hm
    have HF := Lib.hid hf
    clear hm hf hlt
    by_cases h16 : m < 10
    · have d1 : ((m : Int) / 10 == 0) = true := beq_iff_eq.2 (by omega)
      have HR : Hid (M.dg (m % 10) :: s = M.dgs 10 10 n) := Lib.hid (by rw [← hd.out, HDS.out, if_pos h16, Nat.mod_eq_of_lt h16]; rfl)
      clear hd HDS
      go_wp2
      go_ret
      exact ⟨by rw [HR.out]; rfl, hb.alloc hb.size _⟩
    · have d1 : ((m : Int) / 10 == 0) = false := beq_eq_false_iff_ne.2 (by omega)
      obtain ⟨g, rfl⟩ : ∃ g, f = g + 1 := by
        cases f with
        | zero => have := HM.out; omega
        | succ g => exact ⟨g, rfl⟩
      have hmg : m / 10 < 10 ^ (g + 1) := by
        have := HM.out
        rw [Nat.pow_succ] at this
        exact (Nat.div_lt_iff_lt_mul (by omega)).2 this
      have HG := Lib.hid hmg
      have HR : Hid (M.dgs 10 (g + 1) (m / 10) ++ M.dg (m % 10) :: s = M.dgs 10 10 n) := Lib.hid (by rw [← hd.out, HDS.out, if_neg h16, List.append_assoc]; rfl)
      clear hd HDS hmg
      go_wp2
      refine ⟨⟨m / 10, g, M.dg (m % 10) :: s, by go_num, rfl, HG.out, by omega, by have := HF.out; simp; omega, HR, hb.alloc hb.size _⟩, ?_⟩
      show ((m : Int) / 10).toNat < (m : Int).toNat
      omega
end Go.Proofs.YtjbcjcfmjagbkaaGreatDoor
