/-
  Numbers as the library writes them to base ten; code.Text.
-/
import Derived.Test.YtjbcjcfmjagbkaaGreatDoorCodeL
import Derived.Test.YtjbcjcfmjagbkaaGreatDoorShelf2
import Derived.Shelf.Strconv.Itoa3
import Derived.Lib.AppendIntMem
import Derived.WalkSmall
namespace Go.Proofs.YtjbcjcfmjagbkaaGreatDoor
open Go.ChangeShapes Go.WideShapes Go.ChangeAt Go.RowKit Go.Sort
set_option linter.unusedVariables false

/-- The table of the powers of ten. -/
def Tab10 (w : World) : Prop := Lib.TabIs Tryz.prog w "internal/strconv.uint64pow10" .u64 Lib.pow10Tab
theorem Tab10.below {w w' : World} (h : Tab10 w) (hb : Below w.heap.size w w') : Tab10 w' := by
  obtain ⟨g, hg⟩ : ∃ g, Tryz.prog.globalNamed "internal/strconv.uint64pow10" = some g := ⟨4, by kernel_rfl⟩
  have hlt : g < w.heap.size := by
    have hc := Lib.TabIs.cell h hg 0 (by decide)
    rcases Nat.lt_or_ge g w.heap.size with h' | h'
    · exact h'
    · simp [World.cell?, Array.getElem?_eq_none h'] at hc
  exact var?_below hb hg hlt h
theorem below_grow (w : World) (k : Nat) (os : Array Obj) : Below w.heap.size w (grow (w.drewN k) os) :=
  ⟨rfl, rfl, rfl, by simp [grow], fun g hg => Lib.heap_grow_old w k os g hg⟩

set_option maxRecDepth 100000 in
theorem intFormat_small (i : Nat) (hi : i < 100) (w : World) :
    Calls Tryz.prog 117 #[.int .u64 i, .int .i64 10] w fun e w' => e = .returned (.string ⟨(Lib.decDigits i).toArray⟩) ∧ w = w' := by
  have d1 : decide ((i : Int) < 100) = true := decide_eq_true (by omega)
  go_enter Tryz.func117, Tryz.ntmps117
  go_wp2_with (go_at_call 131; refine (Tryz.internal_strconv_small i hi _).mono ?_; rintro e w' ⟨rfl, rfl⟩)
  go_ret
  exact ⟨rfl, rfl⟩

set_option maxHeartbeats 6400000 in
set_option maxRecDepth 100000 in
theorem intFormat_big (u : Nat) (h100 : 100 ≤ u) (hu64 : u < 18446744073709551616) (w : World) (htab : Tab10 w) :
    Calls Tryz.prog 117 #[.int .u64 u, .int .i64 10] w fun e w' => e = .returned (.string ⟨(Lib.decDigits u).toArray⟩) ∧ ∃ k os, w' = grow (w.drewN k) os := by
  have hu1 : 1 ≤ u := by omega
  have d1 : decide ((u : Int) < 100) = false := decide_eq_false (by omega)
  have hnd20 : Lib.nDigits u ≤ 20 := by have := Lib.numDigits_eq u hu1 hu64; split at this <;> omega
  have hb3 : Lib.nDigits u ≤ 24 := by omega
  have hal : Tryz.prog.arrayLen 152 = 24 := by kernel_rfl
  have hsl1 : ∀ W, (Instr.sliceAt 152 (.pointer (some ⟨w.heap.size, 0, none⟩)) none (some (.int .i64 (Lib.nDigits u : Int))) none).run Tryz.prog W = .ok (.slice (some ⟨w.heap.size, 0, none⟩) (Lib.nDigits u) 24) W := fun W => by
    rw [run_sliceAt_array_h W 152 ⟨w.heap.size, 0, none⟩ (by kernel_rfl) .i64 (Lib.nDigits u : Int) (by omega) (by rw [hal]; omega)]
    go_simp
  have hH0 := Lib.holds_zero0 w 152 (Lib.nDigits u) (by omega)
  have hfmt := Tryz.internal_strconv_formatBase10 w.heap.size 0 24 u (Array.replicate (Lib.nDigits u) 0) (w.alloc (.cells Lib.zeros24 152)) hH0 (by rw [Array.size_replicate]; exact Lib.lt_pow_nDigits u) hu64 (by rw [Array.size_replicate]; omega)
  rw [Array.size_replicate] at hfmt
  have HH0 := Lib.hid hH0
  have HTAB := Lib.hid htab
  have HU := Lib.hid hu64
  clear hH0 hal htab hu64
  go_enter Tryz.func117, Tryz.ntmps117
  go_wp2_with (go_at_call 132; refine (Tryz.internal_strconv_numDigits u hu1 HU.out _ (Lib.tabIs_alloc HTAB.out _)).mono ?_; rintro e w' ⟨rfl, rfl⟩)
  go_at_call 133
  refine hfmt.mono ?_
  rintro e w' ⟨rfl, k, v', dk, rfl, hF⟩
  have hcv : (convert 36 9 (.slice (some ⟨w.heap.size, 0, none⟩) (Lib.nDigits u) 24)).run Tryz.prog ((putRow (fun (b : UInt8) => Value.int .u8 (b.toNat : Int)) (w.alloc (.cells Lib.zeros24 152)) w.heap.size 0 dk).drewN k) = .ok (.string ⟨(Lib.decDigits u).toArray⟩) ((putRow (fun (b : UInt8) => Value.int .u8 (b.toNat : Int)) (w.alloc (.cells Lib.zeros24 152)) w.heap.size 0 dk).drewN k) := by
    have h := run_convert_bytes_back (P := Tryz.prog) ((putRow (fun (b : UInt8) => Value.int .u8 (b.toNat : Int)) (w.alloc (.cells Lib.zeros24 152)) w.heap.size 0 dk).drewN k) 36 9 5 ⟨w.heap.size, 0, none⟩ 24 (Lib.decDigits u) Tryz.underlying36 Tryz.underlying5 Tryz.underlying9 (fun j hj => by
      rw [Lib.row_is_numeral hF j hj, Lib.add_plain, World.cell?_drewN]
      exact cell?_putRow (fun (b : UInt8) => Value.int .u8 (b.toNat : Int)) _ w.heap.size 0 _ dk HH0.out (by rw [hF.size, Array.size_replicate]) j (by rw [hF.size]; rw [Lib.decDigits_length] at hj; exact hj))
    rw [Lib.decDigits_length] at h
    exact h
  go_wp2
  go_ret
  obtain ⟨os, eo⟩ := Lib.fin_at w (.cells Lib.zeros24 152) dk k 0
  exact ⟨rfl, k, os, eo⟩
theorem formatUint_any (n : Nat) (hn : n < 4294967296) (w : World) (htab : Tab10 w) :
    Calls Tryz.prog 82 #[.int .u64 n, .int .i64 10] w fun e w' => e = .returned (.string (str (M.dgs 10 10 n))) ∧ Below w.heap.size w w' := by
  have HD : Hid (str (M.dgs 10 10 n) = ⟨(Lib.decDigits n).toArray⟩) := Lib.hid (by rw [M.dgs_dec 10 n (by omega) (by omega)]; rfl)
  have HF : Hid (∀ W : World, Tab10 W → Calls Tryz.prog 117 #[.int .u64 n, .int .i64 10] W fun e w' => e = .returned (.string ⟨(Lib.decDigits n).toArray⟩) ∧ Below W.heap.size W w') := Lib.hid (fun W hW => by
    by_cases h : n < 100
    · refine (intFormat_small n h W).mono ?_
      rintro e w' ⟨rfl, rfl⟩
      exact ⟨rfl, Below.refl _ _⟩
    · refine (intFormat_big n (by omega) (by omega) W hW).mono ?_
      rintro e w' ⟨rfl, k, os, rfl⟩
      exact ⟨rfl, below_grow _ _ _⟩)
  have HT := Lib.hid htab
  rw [HD.out]
  generalize (⟨(Lib.decDigits n).toArray⟩ : ByteArray) = ds at *
  clear HD htab
  go_enter Tryz.func82, Tryz.ntmps82
  go_wp2_with (go_at_call 117; (with_reducible refine (HF.out _ HT.out).mono ?_); rintro e w1 ⟨rfl, hb1⟩)
  go_ret
  exact ⟨rfl, hb1⟩

theorem codeText_some {n m : Nat} (h : M.ofSgn (M.signs n) = some m) : M.codeText n = sSC ++ M.signs n := by unfold M.codeText; rw [h]
theorem codeText_none {n : Nat} (h : M.ofSgn (M.signs n) = none) : M.codeText n = sSN ++ M.dgs 10 10 n := by unfold M.codeText; rw [h]
theorem codeText_len (n : Nat) : (M.codeText n).length ≤ 20 := by
  have h1 := M.dgs_len 10 10 n
  have h2 : (M.signs n).length ≤ 4 := by
    obtain ⟨k, hk, _⟩ := M.trim_parts (beBytes 4 n)
    have := congrArg List.length hk
    rw [beBytes_length, List.length_append] at this
    show (Lib.trimRightB (beBytes 4 n) 32).length ≤ 4
    omega
  unfold M.codeText
  split <;> rw [List.length_append]
  · show 3 + _ ≤ 20; omega
  · show 3 + _ ≤ 20; omega

set_option maxHeartbeats 4000000 in
set_option maxRecDepth 100000 in
/-- code.Text: the table is read only where the number is written out. -/
theorem codeText_any (n : Nat) (hn : n < 4294967296) (w : World) (htab : M.ofSgn (M.signs n) = none → Tab10 w) :
    Calls Tryz.prog 31 #[.int .u32 n] w fun e w' => e = .returned (.string (str (M.codeText n))) ∧ Below w.heap.size w w' := by
  have HB := Lib.hid (fun w => bytesOf_any n hn w)
  have hsg : (M.signs n).length ≤ 4 := by
    obtain ⟨k, hk, _⟩ := M.trim_parts (beBytes 4 n)
    have := congrArg List.length hk
    rw [beBytes_length, List.length_append] at this
    show (Lib.trimRightB (beBytes 4 n) 32).length ≤ 4
    omega
  have HTR : Hid (∀ W, Calls Tryz.prog 80 #[.string (str (beBytes 4 n)), .string ⟨#[32]⟩] W fun e w' => e = .returned (.string (str (M.signs n))) ∧ w' = W) := Lib.hid (fun W => Tryz.strings_TrimRight_one (str (beBytes 4 n)) 32 (by decide) W (by rw [str_size, beBytes_length]; omega))
  have HS := Lib.hid (fun w => ofSigns_any (M.signs n) (by omega) w)
  have hst : (str (M.signs n)).size ≤ 4 := by rw [str_size]; exact hsg
  cases ho : M.ofSgn (M.signs n) with
  | some c =>
    have HR : Hid (str (M.codeText n) = ⟨#[83, 67, 58]⟩ ++ str (M.signs n)) := Lib.hid (by rw [codeText_some ho]; exact (str_append sSC _).symm)
    rw [ho] at HS
    unfold codeRes at HS
    rw [HR.out]
    clear ho HR htab hsg
    generalize str (M.signs n) = sg at *
    generalize str (beBytes 4 n) = bb at *
    have hcat : ¬ 9223372036854775807 < (⟨#[83, 67, 58]⟩ : ByteArray).size + sg.size := by show ¬ 9223372036854775807 < 3 + sg.size; omega
    go_enter Tryz.func31, Tryz.ntmps31
    go_wp2_with (first
      | (go_at_call 81; (with_reducible refine (HB.out _).mono ?_); rintro e w1 ⟨rfl, hb1⟩)
      | (go_at_call 80; (with_reducible refine (HTR.out _).mono ?_); rintro e w2 ⟨rfl, rfl⟩)
      | (go_at_call 77; (with_reducible refine (HS.out _).mono ?_); rintro e w3 ⟨rfl, hb3⟩))
    go_ret
    exact ⟨rfl, bel_trans hb1 hb3⟩
  | none =>
    have HR : Hid (str (M.codeText n) = ⟨#[83, 67, 61]⟩ ++ str (M.dgs 10 10 n)) := Lib.hid (by rw [codeText_none ho]; exact (str_append sSN _).symm)
    have HT := Lib.hid (htab ho)
    have HF := Lib.hid (fun W hW => formatUint_any n hn W hW)
    have hdl : (str (M.dgs 10 10 n)).size ≤ 10 := by rw [str_size]; exact M.dgs_len 10 10 n
    rw [ho] at HS
    unfold codeRes at HS
    rw [HR.out]
    clear ho HR htab hsg
    generalize str (M.signs n) = sg at *
    generalize str (beBytes 4 n) = bb at *
    generalize str (M.dgs 10 10 n) = dd at *
    have hcat : ¬ 9223372036854775807 < (⟨#[83, 67, 61]⟩ : ByteArray).size + dd.size := by show ¬ 9223372036854775807 < 3 + dd.size; omega
    go_enter Tryz.func31, Tryz.ntmps31
    go_wp2_with (first
      | (go_at_call 81; (with_reducible refine (HB.out _).mono ?_); rintro e w1 ⟨rfl, hb1⟩)
      | (go_at_call 80; (with_reducible refine (HTR.out _).mono ?_); rintro e w2 ⟨rfl, rfl⟩)
      | (go_at_call 77; (with_reducible refine (HS.out _).mono ?_); rintro e w3 ⟨rfl, hb3⟩)
      | (go_at_call 82; (with_reducible refine (HF.out _ ((HT.out.below hb1).below hb3)).mono ?_); rintro e w4 ⟨rfl, hb4⟩))
    go_ret
    exact ⟨rfl, bel_trans (bel_trans hb1 hb3) hb4⟩
end Go.Proofs.YtjbcjcfmjagbkaaGreatDoor
