/-
  What head.putExtras appends, and what head.Put answers.
-/
import Derived.Test.YtdlpapchjjbplaaGreatDoorHeadD
namespace Go.Proofs.YtdlpapchjjbplaaGreatDoor
open Go.ChangeShapes Go.WideShapes Go.ChangeAt Go.RowKit
set_option linter.unusedVariables false

def Hd.infoBytes (h : Hd) : List UInt8 := [UInt8.ofNat h.i0, UInt8.ofNat h.i1, UInt8.ofNat h.i2]
def Hd.extraBytes (h : Hd) : List UInt8 := if serviceB h.type = true then beBytes 4 h.service else if codeB h.type = true then beBytes 1 h.code.toNat ++ h.infoBytes else []

theorem service_not_code {t : Int} (h : serviceB t = true) : codeB t = false := by
  unfold serviceB at h; unfold codeB
  have := of_decide_eq_true h
  exact decide_eq_false (by omega)

theorem info_map (h : Hd) (h4 : h.i0 < 256) (h5 : h.i1 < 256) (h6 : h.i2 < 256) : h.infoBytes.map byteV = [.int .u8 h.i0, .int .u8 h.i1, .int .u8 h.i2] := by
  simp [Hd.infoBytes, byteV]; omega

set_option maxHeartbeats 1000000 in
theorem putExtras_any (h : Hd) (g cap : Nat) (xs : List UInt8) (w : World) (hown : rowAt w g cap xs) (h3 : h.service < 4294967296) (h4 : h.i0 < 256) (h5 : h.i1 < 256) (h6 : h.i2 < 256) (hcode : codeB h.type = true → 0 ≤ h.code ∧ h.code ≤ 255) (hlen : xs.length ≤ 2048) :
    Calls Tryz.prog 70 #[.slice (some ⟨g, 0, none⟩) xs.length cap, h.val] w (PutOut w g (xs ++ h.extraBytes)) := by
  have hlt := row_lt hown
  have HOWN := Lib.hid hown; clear hown
  have HX : Hid (h.extraBytes = if serviceB h.type = true then beBytes 4 h.service else if codeB h.type = true then beBytes 1 h.code.toNat ++ h.infoBytes else []) := Lib.hid rfl
  by_cases hs : serviceB h.type = true
  · have hc := service_not_code hs
    have HS := Lib.hid (fun w => hasService_any h.type w)
    have HC := Lib.hid (fun w => hasCode_any h.type w)
    rw [hs] at HS HX
    rw [hc] at HC
    rw [if_pos rfl] at HX
    have HP := Lib.hid (fun w (hr : rowAt w g cap xs) => put_any g cap xs 4 h.service w hr (by omega) (by omega) (by omega))
    clear hs hc hcode
    unfold Hd.val
    go_enter Tryz.func70, Tryz.ntmps70
    go_wp2_with (first
      | (go_at_call 59; refine (HS.out _).mono ?_; rintro e w' ⟨rfl, rfl⟩))
    refine (HP.out _ (row_alloc HOWN.out _)).mono ?_
    rintro e w1 ⟨g1, cap1, rfl, hr1, hb1, ho1⟩
    have hcell : w1.cell? ⟨w.heap.size, 6, none⟩ = some (.int .i64 h.type) := by
      rw [hb1.cell_far ⟨w.heap.size, 6, none⟩ (by simp) (by simp; omega)]; simp
    have HR1 := Lib.hid hr1; have HB1 := Lib.hid hb1; have HO1 := Lib.hid ho1
    clear hr1 hb1 ho1
    go_wp2_with (first
      | (go_at_call 60; refine (HC.out _).mono ?_; rintro e w' ⟨rfl, rfl⟩))
    go_ret
    refine ⟨g1, cap1, ret_slice (by rw [HX.out]; simp), by rw [HX.out]; exact HR1.out, (World.grownBy_alloc _ _ _).trans HB1.out, ?_⟩
    have := HO1.out
    simp at this
    omega
  · by_cases hc : codeB h.type = true
    · have HS := Lib.hid (fun w => hasService_any h.type w)
      have HC := Lib.hid (fun w => hasCode_any h.type w)
      rw [Bool.eq_false_iff.2 hs] at HS HX
      rw [hc] at HC HX
      rw [if_neg (by decide), if_pos rfl] at HX
      obtain ⟨hc0, hc1⟩ := hcode hc
      obtain ⟨c, hcc⟩ := Int.eq_ofNat_of_zero_le hc0
      have hcn : h.code.toNat = c := by rw [hcc]; rfl
      rw [hcn] at HX
      have hcl : c ≤ 255 := by omega
      have HP := Lib.hid (fun w (hr : rowAt w g cap xs) => put_any g cap xs 1 c w hr (by omega) (by omega) (by omega))
      have him := info_map h h4 h5 h6
      have HIM := Lib.hid him
      clear hs hc hcode hcn him
      unfold Hd.val
      rw [hcc]
      clear hcc hc0 hc1
      obtain ⟨i0, hi, hz0, hz1, hz2⟩ := info_parts infoU8
      go_enter Tryz.func70, Tryz.ntmps70
      go_wp2_with (first
        | (go_at_call 59; refine (HS.out _).mono ?_; rintro e w' ⟨rfl, rfl⟩)
        | (go_at_call 60; refine (HC.out _).mono ?_; rintro e w' ⟨rfl, rfl⟩))
      refine (HP.out _ (row_alloc HOWN.out _)).mono ?_
      rintro e w1 ⟨g1, cap1, rfl, hr1, hb1, ho1⟩
      have hcell : ∀ o, w1.cell? ⟨w.heap.size, o, none⟩ = (w.alloc _).cell? ⟨w.heap.size, o, none⟩ := fun o => hb1.cell_far ⟨w.heap.size, o, none⟩ (by simp) (by simp; omega)
      have c12 := hcell 12
      have c13 := hcell 13
      have c14 := hcell 14
      simp at c12 c13 c14
      have hnews : ∀ j u, [Value.int .u8 (h.i0 : Int), .int .u8 (h.i1 : Int), .int .u8 (h.i2 : Int)][j]? = some u → w1.cell? ((⟨w.heap.size, 12, none⟩ : Addr).add j) = some u := by
        intro j u hj
        rcases j with _ | _ | _ | j
        · cases hj; exact c12
        · cases hj; exact c13
        · cases hj; exact c14
        · simp at hj
      have hone : ∀ u ∈ [Value.int .u8 (h.i0 : Int), .int .u8 (h.i1 : Int), .int .u8 (h.i2 : Int)], u.oneCell' = true := by
        intro u hu
        simp only [List.mem_cons, List.not_mem_nil, or_false] at hu
        rcases hu with rfl | rfl | rfl <;> rfl
      have hll : (xs ++ beBytes 1 c).length = xs.length + 1 := by simp [beBytes_length]
      have hl63 : (xs ++ beBytes 1 c).length + 3 ≤ maxLen := by unfold maxLen; omega
      have HNEWS := Lib.hid hnews; have HONE := Lib.hid hone; have HLL := Lib.hid hll; have HL63 := Lib.hid hl63
      have HR1 := Lib.hid hr1; have HB1 := Lib.hid hb1; have HO1 := Lib.hid ho1
      clear hcell c12 c13 c14 hnews hone hll hl63 hr1 hb1 ho1
      generalize hys : xs ++ beBytes 1 c = ys at *
      have HYS := Lib.hid hys; clear hys
      go_wp2_with (
        at_builtin; (refine wpList_append_lies _ rfl _ _ 34 rfl 0 5 i0 (.int .u8 0) 1 1 Tryz.underlying34 hi hz0 hz1 hz2 rfl (by decide) _ _ _ rfl HR1.out ⟨w.heap.size, 12, none⟩ 3 3 [.int .u8 (h.i0 : Int), .int .u8 (h.i1 : Int), .int .u8 (h.i2 : Int)] rfl rfl HNEWS.out HONE.out (by decide) HL63.out (by have := HLL.out; omega) (Nat.zero_le _) _ rfl ?_; intro g2 cap2 w2 hr2 hb2 hat2 hlt2))
      have HR2 := Lib.hid hr2; have HB2 := Lib.hid hb2; have HAT2 := Lib.hid hat2
      clear hr2 hb2 hat2 hlt2
      go_wp2
      go_ret
      have e : xs ++ h.extraBytes = ys ++ h.infoBytes := by rw [HX.out, ← List.append_assoc, HYS.out]
      rw [e]
      refine ⟨g2, cap2, ret_slice (by simp [Hd.infoBytes]), by unfold rowAt; rw [List.length_append, List.map_append, HIM.out]; exact HR2.out, ?_, ?_⟩
      · refine ((World.grownBy_alloc _ _ _).trans HB1.out).andThen HB2.out ?_
        intro j hj
        cases hj
        rcases HO1.out with h | h
        · exact .inr (by rw [h])
        · exact .inl (Nat.le_trans (World.grownBy_alloc w _ none).size h)
      · have h1 := HO1.out
        have h2 := HB1.out.size
        simp at h1 h2
        rcases HAT2.out with h | h
        · have e : g2 = g1 := (Option.some.inj (show some g1 = some g2 from h)).symm
          omega
        · omega
    · have HS := Lib.hid (fun w => hasService_any h.type w)
      have HC := Lib.hid (fun w => hasCode_any h.type w)
      rw [Bool.eq_false_iff.2 hs] at HS HX
      rw [Bool.eq_false_iff.2 hc] at HC HX
      rw [if_neg (by decide), if_neg (by decide)] at HX
      clear hs hc hcode
      unfold Hd.val
      go_enter Tryz.func70, Tryz.ntmps70
      go_wp2_with (first
        | (go_at_call 59; refine (HS.out _).mono ?_; rintro e w' ⟨rfl, rfl⟩)
        | (go_at_call 60; refine (HC.out _).mono ?_; rintro e w' ⟨rfl, rfl⟩))
      go_ret
      refine ⟨g, cap, ret_slice (by rw [HX.out]; simp), by rw [HX.out, List.append_nil]; exact row_alloc HOWN.out _, World.grownBy_alloc _ _ _, .inl rfl⟩

theorem typeByte_any (t : Int) (x : Bool) (h0 : 0 ≤ t) (h1 : t ≤ 9) (w : World) :
    Calls Tryz.prog 68 #[.int .i64 t, .bool x] w fun e w' => e = .returned (.int .i64 (t * 2 + if x = true then 1 else 0)) ∧ w = w' := by
  have ht : t = 0 ∨ t = 1 ∨ t = 2 ∨ t = 3 ∨ t = 4 ∨ t = 5 ∨ t = 6 ∨ t = 7 ∨ t = 8 ∨ t = 9 := by omega
  rcases ht with rfl | rfl | rfl | rfl | rfl | rfl | rfl | rfl | rfl | rfl <;> cases x
  all_goals
    go_enter Tryz.func68, Tryz.ntmps68
    go_wp2
    go_ret
    exact ⟨M.ret_int (by decide), rfl⟩
end Go.Proofs.YtdlpapchjjbplaaGreatDoor
