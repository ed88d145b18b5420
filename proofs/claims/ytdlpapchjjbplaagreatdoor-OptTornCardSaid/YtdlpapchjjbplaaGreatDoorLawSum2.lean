/-
  The law SumBit, walked.
-/
import Derived.Test.YtdlpapchjjbplaaGreatDoorLawSum
import Derived.Test.YtdlpapchjjbplaaGreatDoorRowC
namespace Go.Proofs.YtdlpapchjjbplaaGreatDoor
open Go.ChangeShapes Go.WideShapes Go.ChangeAt Go.RowKit
set_option linter.unusedVariables false

set_option maxHeartbeats 4000000 in
set_option maxRecDepth 100000 in
theorem sumBit_none (s : ByteArray) (at_ : Int) (hs : s.size ≤ maxLen) (h0 : s.data.toList.take 300 = []) (w : World) :
    Calls Tryz.prog 4 #[.string s, .int .i64 at_] w fun e w' => e = .returned (.bool true) ∧ Below w.heap.size w w' := by
  have HT := Lib.hid (fun w => textN_any s 300 300 [] rfl (by omega) hs h0 w)
  have HS := Lib.hid (fun w H hH => sum1_any w H hH [] 65535 (by simp) (by decide))
  have hz : (str []).size = 0 := rfl
  clear hs h0
  generalize str [] = bl at *
  go_enter Tryz.func4, Tryz.ntmps4
  go_wp2_with (first
    | (go_at_call 15; refine (begun_any _).mono ?_; rintro e w0 ⟨rfl, hb0⟩)
    | (go_at_call 16; (with_reducible refine (HT.out _).mono ?_); rintro e w1 ⟨rfl, rfl⟩)
    | (go_at_call 19; (with_reducible refine (HS.out _ _ (by first | rfl | simp)).mono ?_); rintro e w1 ⟨rfl, rfl⟩))
  all_goals go_ret
  all_goals exact ⟨rfl, hb0.alloc hb0.size _⟩

theorem pow_256 (k : Nat) (hk : k < 8) : (2 : Int) ^ k % 256 = ((2 ^ k : Nat) : Int) := by
  have : ∀ k : Fin 8, (2 : Int) ^ k.val % 256 = ((2 ^ k.val : Nat) : Int) := by decide +kernel
  exact this ⟨k, hk⟩

theorem row_new (W : World) (o : Obj) : (W.alloc o).drew.heap[W.heap.size]? = some o := heap_alloc_new W o
theorem row_old (W : World) (o o' : Obj) : ((W.alloc o).alloc o').drew.heap[W.heap.size]? = some o := by
  show ((W.alloc o).alloc o').heap[W.heap.size]? = some o
  have h1 := heap_alloc_new W o
  have hlt : W.heap.size < (W.alloc o).heap.size := by simp
  rw [Below.heap_alloc _ _ _ hlt]
  exact h1
theorem row_second (W : World) (o o' : Obj) : ((W.alloc o).alloc o').drew.heap[W.heap.size + 1]? = some o' := by
  show ((W.alloc o).alloc o').heap[W.heap.size + 1]? = some o'
  rw [show W.heap.size + 1 = (W.alloc o).heap.size by simp]
  exact heap_alloc_new _ _
theorem sum1_at (W : World) (H : Nat) (l : List UInt8) (x : Nat) (hl : l.length ≤ 1000000) (hx : M.sum16 l = x) (hc : W.heap[H]? = some (.cells #[.string (str l)] 9)) :
    Calls Tryz.prog 19 #[.slice (some ⟨H, 0, none⟩) 1 1] W fun e w' => e = .returned (.int .i64 x) ∧ W = w' := by
  have hj : M.joined [str l] = l := by simp [M.joined, str]
  have hst : StrsAt W (.slice (some ⟨H, 0, none⟩) 1 1) [str l] := by
    refine ⟨.inr ⟨⟨H, 0, none⟩, 1, rfl, fun i hi => ?_⟩, by simp, ?_, by rw [hj]; omega⟩
    · have : i = 0 := by simp at hi; omega
      subst this
      have hadd : (⟨H, 0, none⟩ : Addr).add 0 = ⟨H, 0, none⟩ := by unfold Addr.add; split <;> simp_all
      rw [hadd, cell_of_row _ _ _ _ _ _ hc]
      rfl
    · intro s hs; simp at hs; subst hs; rw [str_size]; unfold maxLen; omega
  have h := sumOf_at hst
  rw [hj, hx] at h
  exact h

set_option maxHeartbeats 4000000 in
set_option maxRecDepth 100000 in
theorem sumBit_some (s : ByteArray) (at_ : Int) (hs : s.size ≤ maxLen) (h0 : s.data.toList.take 300 ≠ []) (h1 : -9223372036854775808 ≤ at_) (h2 : at_ ≤ 9223372036854775807) (w : World) :
    Calls Tryz.prog 4 #[.string s, .int .i64 at_] w fun e w' => e = .returned (.bool true) ∧ Below w.heap.size w w' := by
  obtain ⟨l, hl, hll⟩ : ∃ l, s.data.toList.take 300 = l ∧ l.length ≤ 300 := ⟨_, rfl, by simp; omega⟩
  rw [hl] at h0
  have hl0 : 0 < l.length := List.length_pos_iff.2 h0
  have HT := Lib.hid (fun w => textN_any s 300 300 l rfl (by omega) hs hl w)
  -- the place
  obtain ⟨d, hd⟩ : ∃ d : Int, 8 * (l.length : Int) = d := ⟨_, rfl⟩
  obtain ⟨m1, m2⟩ := tmod_lim at_ d (by omega)
  obtain ⟨k1, hk1⟩ : ∃ k, at_.tmod d = k := ⟨_, rfl⟩
  rw [hk1] at m1 m2
  have m5 : 0 ≤ (k1 + d).tmod d := Int.tmod_nonneg _ (by omega)
  obtain ⟨m3, m4⟩ := tmod_lim (k1 + d) d (by omega)
  obtain ⟨q, hq⟩ : ∃ q, (k1 + d).tmod d = q := ⟨_, rfl⟩
  rw [hq] at m3 m4 m5
  obtain ⟨p, hp⟩ : ∃ p : Nat, q.tdiv 8 = (p : Int) := ⟨(q.tdiv 8).toNat, by rw [Int.tdiv_eq_ediv_of_nonneg m5]; omega⟩
  obtain ⟨k, hk⟩ : ∃ k : Nat, q.tmod 8 = (k : Int) := ⟨(q.tmod 8).toNat, by rw [Int.tmod_eq_emod_of_nonneg m5]; omega⟩
  have hpl : p < l.length := by rw [Int.tdiv_eq_ediv_of_nonneg m5] at hp; omega
  have hk8 : k < 8 := by rw [Int.tmod_eq_emod_of_nonneg m5] at hk; omega
  -- the byte
  obtain ⟨fx, fl, _⟩ := M.flip_byte (l.getD p 0).toNat k (l.getD p 0).toNat_lt hk8
  obtain ⟨b, hb⟩ : ∃ b : UInt8, b.toNat = (l.getD p 0).toNat ^^^ 2 ^ k := ⟨UInt8.ofNat ((l.getD p 0).toNat ^^^ 2 ^ k), by rw [UInt8.toNat_ofNat']; exact Nat.mod_eq_of_lt fl⟩
  obtain ⟨hne, hor⟩ := M.sum_bit l p k b hpl hk8 hb
  rw [← hb] at fx
  have hbyte : l[p] = l.getD p 0 := by rw [List.getD_eq_getElem?_getD, List.getElem?_eq_getElem hpl]; rfl
  have hlen2 : (l.set p b).length = l.length := by simp
  obtain ⟨x, hx⟩ : ∃ x, M.sum16 l = x := ⟨_, rfl⟩
  obtain ⟨y, hy⟩ : ∃ y, M.sum16 (l.set p b) = y := ⟨_, rfl⟩
  rw [hx] at hne hor
  rw [hy] at hne hor
  have HS1 := Lib.hid (fun W H hc => sum1_at W H l x (by omega) hx hc)
  have HS2 := Lib.hid (fun W H hc => sum1_at W H (l.set p b) y (by omega) hy hc)
  have HCR := Lib.hid (fun w => conv_row w l)
  have hsz : (str l).size = l.length := rfl
  have HBRC := Lib.hid (fun (W : World) (g : Nat) (h : BRow W g l) => (show W.cell? ⟨g, p, none⟩ = some (.int .u8 (l.getD p 0).toNat) by rw [h.cell p hpl, hbyte]; rfl))
  have HBRF := Lib.hid (fun (W : World) (g : Nat) (h : BRow W g l) => h.free p hpl)
  have HBRS := Lib.hid (fun (W : World) (g : Nat) (h : BRow W g l) => h.set p b (b.toNat : Int) rfl)
  have HCV : Hid (∀ (W : World) (g cap : Nat), BRow W g (l.set p b) → (convert 34 9 (.slice (some ⟨g, 0, none⟩) l.length cap)).run Tryz.prog W = .ok (.string (str (l.set p b))) W) := Lib.hid (fun W g cap h => by have e := h.conv cap; rwa [hlen2] at e)
  have t1 : ((x : Int) != (y : Int)) = true := by simp; omega
  have hdz : (d == 0) = false := by rw [beq_eq_false_iff_ne]; omega
  have hlz : ((l.length : Int) == 0) = false := by rw [beq_eq_false_iff_ne]; omega
  have hor2 : ((x : Int) != 0) = true ∨ ((y : Int) != 65535) = true := by
    rcases hor with h | h
    · left; rw [bne_iff_ne]; omega
    · right; rw [bne_iff_ne]; omega
  obtain ⟨bl, hbl⟩ : ∃ b, str l = b := ⟨_, rfl⟩
  have hbs : (bl.size : Int) = (l.length : Int) := by rw [← hbl]; rfl
  have hbs2 : bl.size ≤ 300 := by rw [← hbl]; exact hll
  obtain ⟨bm, hbm⟩ : ∃ z, str (l.set p b) = z := ⟨_, rfl⟩
  rw [hbl] at HT HS1 HCR
  rw [hbm] at HS2 HCV
  have HOR := Lib.hid hor2
  have HX := Lib.hid fx
  generalize (l.getD p 0).toNat = c at *
  obtain ⟨N, hN⟩ : ∃ N, l.length = N := ⟨_, rfl⟩
  rw [hN] at hd hpl hlz hbs HCR HCV
  clear hl hs h0 hb hne hor hx hy hbyte hlen2 hsz hbl hbm hll hl0 hor2 fx fl
  go_enter Tryz.func4, Tryz.ntmps4
  go_upto_region 8 with (first
    | (go_at_call 15; refine (begun_any _).mono ?_; rintro e w0 ⟨rfl, hb0⟩)
    | (go_at_call 16; (with_reducible refine (HT.out _).mono ?_); rintro e w1 ⟨rfl, rfl⟩))
  obtain ⟨cap, o, hcv, hrow⟩ := HCR.out w0
  go_upto_region 9 with fail
  have hb9 : Below w.heap.size w (w0.alloc o).drew := bel_trans hb0 (bel_trans (bel_alloc w0 o) (bel_drewN _ 1))
  have hrow : BRow (w0.alloc o).drew w0.heap.size l := hrow.same rfl
  have hg9 : w.heap.size ≤ w0.heap.size := hb0.size
  clear hcv hb0
  generalize w0.heap.size = g at *
  generalize (w0.alloc o).drew = W9 at *
  have hlt := hrow.lt
  have c9 := HBRC.out W9 g hrow
  have f9 := HBRF.out W9 g hrow
  have HB9 := Lib.hid hb9
  have HRW := Lib.hid hrow
  clear hb9 hrow
  have hz : bits .xor .u8 (c : Int) ((2 : Int) ^ k % 256) = (b.toNat : Int) := by rw [pow_256 k hk8]; exact HX.out
  go_region
  have hb10 : Below w.heap.size w (W9.setCell ⟨g, p, none⟩ (.int .u8 (b.toNat : Int))).drew := (HB9.out.setCell (p := ⟨g, p, none⟩) hg9 _).drew
  have hr10 : BRow (W9.setCell ⟨g, p, none⟩ (.int .u8 (b.toNat : Int))).drew g (l.set p b) := (HBRS.out W9 g HRW.out).same rfl
  clear c9 f9 hlt
  go_upto_region 10 with fail
  generalize (W9.setCell ⟨g, p, none⟩ (.int .u8 (b.toNat : Int))).drew = WA at *
  have cv0 := HCV.out WA g cap hr10
  have cv1 := HCV.out WA.drew g cap hr10.drew
  have cv2 := fun o => HCV.out (WA.alloc o) g cap (hr10.alloc o)
  have cv3 := fun o => HCV.out (WA.alloc o).drew g cap (hr10.alloc o).drew
  have HBA := Lib.hid hb10
  clear hb10 hr10 hz
  go_cut [7, 8] (fun s7 s8 wx => s7 = .int .i64 x ∧ s8 = .int .i64 y ∧ Below w.heap.size w wx)
  case first =>
    go_region_with (go_at_call 19; (first | (refine (HS1.out _ _ ?_).mono ?_; (first | exact row_new WA _ | exact row_old WA _ _ | exact row_second WA _ _)) | (refine (HS2.out _ _ ?_).mono ?_; (first | exact row_new WA _ | exact row_old WA _ _ | exact row_second WA _ _))); rintro e w1 ⟨rfl, rfl⟩)
    all_goals (go_wp2_with fail; go_meet; exact ⟨rfl, rfl, ((HBA.out.alloc HBA.out.size _).alloc (HBA.out.alloc HBA.out.size _).size _).drew⟩)
  case rest =>
    obtain ⟨rfl, rfl, hbc⟩ := hcut
    have HBC := Lib.hid hbc
    clear hbc
    cases e1 : ((x : Int) != 0) with
    | true =>
      go_wp2
      go_ret
      exact ⟨rfl, HBC.out⟩
    | false =>
      have e2 : ((y : Int) != 65535) = true := by
        rcases HOR.out with h | h
        · rw [h] at e1; cases e1
        · exact h
      go_wp2
      go_ret
      exact ⟨rfl, HBC.out⟩
end Go.Proofs.YtdlpapchjjbplaaGreatDoor
