/-
  The law CodeAll, walked; what the laid table of the powers of ten says.
-/
import Derived.Test.YtjbcjcfmjagbkaaGreatDoorCodeU
import Derived.Test.YtjbcjcfmjagbkaaGreatDoorLawSum3
import Derived.Test.YtjbcjcfmjagbkaaGreatDoorRows
import Derived.MakeChecks
namespace Go.Proofs.YtjbcjcfmjagbkaaGreatDoor
open Go.ChangeShapes Go.WideShapes Go.ChangeAt Go.RowKit
set_option linter.unusedVariables false
set_option linter.unusedSimpArgs false

theorem tab10_vars {W : World} {x1 x2 : String × DataW Unit} {rest : List (String × DataW Unit)} {ps : List MemPlace} (h : DataW.LaidVars Tryz.prog W (x1 :: x2 :: ("internal/strconv.uint64pow10", Lib.tabData .u64 Lib.pow10Tab) :: rest) ps) : Tab10 W := by
  obtain ⟨_, _, _, _, _, _, _, _, _, _, h2, _⟩ := h
  obtain ⟨_, _, _, _, _, _, _, _, _, _, h3, _⟩ := h2
  obtain ⟨g, t, cs, fuel, p, q, hg, ht, hvar, hd, _, _⟩ := h3
  obtain rfl : t = 164 := by
    have e : Tryz.prog.globalNamed "internal/strconv.uint64pow10" = some 4 := by kernel_rfl
    obtain rfl := Option.some.inj (e.symm.trans hg)
    exact (Option.some.inj ((show (Tryz.prog.globals[4]?).map (·.type) = some 164 by kernel_rfl).symm.trans ht)).symm
  unfold Tab10 Lib.TabIs
  rw [hvar, ← Lib.cells_of_tab Tryz.underlying164 Tryz.underlying22 (by kernel_rfl) (by kernel_rfl) hd]
theorem tab10_laid {W : World} {x1 x2 : String × DataW Unit} {rest : List (String × DataW Unit)} (h : laidMet Tryz.prog (x1 :: x2 :: ("internal/strconv.uint64pow10", Rows.laid_internal_strconv_uint64pow10) :: rest) W) : Tab10 W := by
  rw [show (Rows.laid_internal_strconv_uint64pow10 : DataW Unit) = Lib.tabData .u64 Lib.pow10Tab by kernel_rfl] at h
  obtain ⟨ps, h, _⟩ := h
  exact tab10_vars h

/-- What the code of a written number is. -/
theorem codeRes_if (n : Nat) : codeRes (if n = 4294967295 then none else some n) = if n = 4294967295 then .tuple #[.int .u32 0, .bool false] else .tuple #[.int .u32 (n : Int), .bool true] := by
  split <;> rfl

set_option maxHeartbeats 4000000 in
set_option maxRecDepth 100000 in
theorem codeAll_walk (s : ByteArray) (c : Nat) (hs : s.size ≤ maxLen) (hc : c < 4294967296) (w : World) (ht : Tab10 w) :
    Calls Tryz.prog 4 #[.string s, .int .u32 c] w fun e w' => e = .returned (.bool true) ∧ Below w.heap.size w w' := by
  obtain ⟨l, hl, hll⟩ : ∃ l, s.data.toList.take 20 = l ∧ l.length ≤ 20 := ⟨_, rfl, by simp; omega⟩
  have HT := Lib.hid (fun w => textN_any s 20 20 l rfl (by omega) hs hl w)
  obtain ⟨c1, b1, hcb⟩ := codeRes_two (M.serv l)
  have HS1 := Lib.hid (fun w => service_any l (by omega) w)
  have HR1 := Lib.hid (fun w => refService_any l (by omega) w)
  rw [hcb] at HS1 HR1
  have HTX := Lib.hid (fun W (h : Tab10 W) => codeText_any c hc W (fun _ => h))
  have HRT := Lib.hid (fun W => refCodeText_any c hc W)
  have HHX := Lib.hid (fun W => hex_any c hc W)
  have hlt := codeText_len c
  have hlx := M.dgs_len 16 8 c
  have HS2 := Lib.hid (fun w => service_any (M.codeText c) (by omega) w)
  have HS3 : Hid (∀ w, Calls Tryz.prog 29 #[.string (str (sSN ++ 120 :: M.dgs 16 8 c))] w fun e w' => e = .returned (codeRes (M.serv (sSN ++ 120 :: M.dgs 16 8 c))) ∧ Below w.heap.size w w') := Lib.hid (fun w => service_any _ (by rw [List.length_append, List.length_cons]; show 3 + _ ≤ _; omega) w)
  rw [M.serv_text c hc] at HS2
  rw [M.serv_num, M.numC_hex 120 (.inl rfl) c hc] at HS3
  have hcat : ⟨#[83, 67, 61, 120]⟩ ++ str (M.dgs 16 8 c) = str (sSN ++ 120 :: M.dgs 16 8 c) := by
    have e := str_append [83, 67, 61, 120] (M.dgs 16 8 c)
    exact e
  obtain ⟨sl, hsl⟩ : ∃ b, str l = b := ⟨_, rfl⟩
  obtain ⟨st, hst⟩ : ∃ b, str (M.codeText c) = b := ⟨_, rfl⟩
  obtain ⟨sh, hsh⟩ : ∃ b, str (M.dgs 16 8 c) = b := ⟨_, rfl⟩
  obtain ⟨sx, hsx⟩ : ∃ b, str (sSN ++ 120 :: M.dgs 16 8 c) = b := ⟨_, rfl⟩
  have hsz : sh.size ≤ 8 := by rw [← hsh, str_size]; exact hlx
  have hcl : ¬ 9223372036854775807 < (⟨#[83, 67, 61, 120]⟩ : ByteArray).size + sh.size := by show ¬ 9223372036854775807 < 4 + sh.size; omega
  rw [hsl] at HT HS1 HR1
  rw [hst] at HTX HRT HS2
  rw [hsh] at HHX hcat
  rw [hsx] at HS3 hcat
  have HTAB := Lib.hid ht
  clear hl hll hcb hlt hlx hsl hst hsh hsx hs ht
  by_cases hm : c = 4294967295
  · rw [if_pos hm] at HS2 HS3
    unfold codeRes at HS2 HS3
    have d1 : ((c : Int) != 4294967295) = false := by rw [bne_eq_false_iff_eq]; omega
    clear hm
    go_enter Tryz.func4, Tryz.ntmps4
    go_upto_region 9 with (first
      | (go_at_call 17; refine (begun_any _).mono ?_; rintro e w0 ⟨rfl, hb0⟩)
      | (go_at_call 18; (with_reducible refine (HT.out _).mono ?_); rintro e w1 ⟨rfl, rfl⟩)
      | (go_at_call 29; (with_reducible refine (HS1.out _).mono ?_); rintro e w2 ⟨rfl, hb2⟩)
      | (go_at_call 30; (with_reducible refine (HR1.out _).mono ?_); rintro e w3 ⟨rfl, rfl⟩))
    have HB2 := Lib.hid (bel_trans hb0 hb2)
    have HTAB2 := Lib.hid (HTAB.out.below HB2.out)
    clear hb0 hb2 HTAB
    go_wp2_with (first
      | (go_at_call 31; (with_reducible refine (HTX.out _ HTAB2.out).mono ?_); rintro e w4 ⟨rfl, hb4⟩)
      | (go_at_call 29; (with_reducible refine (HS2.out _).mono ?_); rintro e w5 ⟨rfl, hb5⟩)
      | (go_at_call 29; (with_reducible refine (HS3.out _).mono ?_); rintro e w6 ⟨rfl, hb6⟩)
      | (go_at_call 32; (with_reducible refine (HHX.out _).mono ?_); rintro e w7 ⟨rfl, hb7⟩)
      | (go_at_call 33; (with_reducible refine (HRT.out _).mono ?_); rintro e w8 ⟨rfl, hb8⟩))
    go_ret
    exact ⟨rfl, bel_trans HB2.out (bel_trans hb4 (bel_trans hb5 (bel_trans hb7 (bel_trans hb6 hb8))))⟩
  · rw [if_neg hm] at HS2 HS3
    unfold codeRes at HS2 HS3
    have d1 : ((c : Int) != 4294967295) = true := by rw [bne_iff_ne]; omega
    clear hm
    go_enter Tryz.func4, Tryz.ntmps4
    go_upto_region 9 with (first
      | (go_at_call 17; refine (begun_any _).mono ?_; rintro e w0 ⟨rfl, hb0⟩)
      | (go_at_call 18; (with_reducible refine (HT.out _).mono ?_); rintro e w1 ⟨rfl, rfl⟩)
      | (go_at_call 29; (with_reducible refine (HS1.out _).mono ?_); rintro e w2 ⟨rfl, hb2⟩)
      | (go_at_call 30; (with_reducible refine (HR1.out _).mono ?_); rintro e w3 ⟨rfl, rfl⟩))
    have HB2 := Lib.hid (bel_trans hb0 hb2)
    have HTAB2 := Lib.hid (HTAB.out.below HB2.out)
    clear hb0 hb2 HTAB
    go_wp2_with (first
      | (go_at_call 31; (with_reducible refine (HTX.out _ HTAB2.out).mono ?_); rintro e w4 ⟨rfl, hb4⟩)
      | (go_at_call 29; (with_reducible refine (HS2.out _).mono ?_); rintro e w5 ⟨rfl, hb5⟩)
      | (go_at_call 29; (with_reducible refine (HS3.out _).mono ?_); rintro e w6 ⟨rfl, hb6⟩)
      | (go_at_call 32; (with_reducible refine (HHX.out _).mono ?_); rintro e w7 ⟨rfl, hb7⟩)
      | (go_at_call 33; (with_reducible refine (HRT.out _).mono ?_); rintro e w8 ⟨rfl, hb8⟩))
    go_ret
    exact ⟨rfl, bel_trans HB2.out (bel_trans hb4 (bel_trans hb5 (bel_trans hb7 (bel_trans hb6 hb8))))⟩
end Go.Proofs.YtjbcjcfmjagbkaaGreatDoor
