/-
  The document's GetHead: the first twelve bytes.
-/
import Derived.Test.YtcdhllajdpalaaaGreatDoorGetS
namespace Go.Proofs.YtcdhllajdpalaaaGreatDoor
open Go.ChangeShapes Go.WideShapes Go.ChangeAt Go.RowKit
set_option linter.unusedVariables false
set_option linter.unusedSimpArgs false

theorem ex_alloc26 (ρ : Operand → Value) (W : World) (o : Oper) (ho : o.op = .alloc 26) : (execOp ρ o).run Tryz.prog W = .ok (.value (.pointer (some ⟨W.heap.size, 0, none⟩))) (W.alloc Hd.zero.box) := by
  have hz : Hd.zero.box = Obj.cells #[Value.int IntKind.i64 0, Value.int IntKind.i64 0, Value.int IntKind.i64 0, Value.int IntKind.i64 0, Value.int IntKind.i64 0, Value.int IntKind.i64 0, Value.int IntKind.i64 0, Value.bool false, Value.int IntKind.u64 0, Value.int IntKind.u64 0, Value.int IntKind.u32 0, Value.int IntKind.i64 0, Value.int IntKind.u8 0, Value.int IntKind.u8 0, Value.int IntKind.u8 0] 26 := rfl
  rw [hz]
  unfold execOp
  simp [go_sem, ho]
theorem store_hdJ {Q : Exit → Act → World → Prop} {o : Oper} {a : Act} {w : World} {K' : Act → World → Prop} {X : Value → World → Prop}
    (hk : ∀ v w', X v w' → K' (a.put o.dst v) w') {x y : Operand} (hgd : o.guard = none) (ho : o.op = .store 26 x y) (C : Nat) (h2 h : Hd)
    (hx : a.eval x = .pointer (some ⟨C, 0, none⟩)) (hy : a.eval y = h2.val) (hb : HdBlk h C w) (hX : ∀ w', HdBlk h2 C w' → w.grownBy w' (some C) → X undef w') : Oper.wp Tryz.prog o a w K' Q :=
  wp_store_row 26 x y ho C h2.cellsA hx hy 26 h.cellsA hb infoHd rfl (cellsA_one _) (hk _ _ (hX _ (setRow_blk hb) (grown_setRow _ _ _)))

set_option maxHeartbeats 4000000 in
set_option maxRecDepth 100000 in
theorem refGet_long (l : List UInt8) (h : 12 ≤ l.length) (hl : l.length ≤ 1000000000) (w : World) :
    Calls Tryz.prog 14 #[.string (str l)] w fun e w' => (faultN l ≠ 0 → GetNo w (faultN l) e w') ∧ (faultN l = 0 → e = .returned (.tuple #[(getHd l).val, .int .i64 0]) ∧ Below w.heap.size w w') := by
  have T := twelve l h
  obtain ⟨s, hs⟩ : ∃ s, str l = s := ⟨_, rfl⟩
  have hsz : s.size = l.length := by rw [← hs]; rfl
  rw [hs] at T ⊢
  have HSL := Lib.hid (cut_num l)
  have HIX := Lib.hid (cut_byte l)
  rw [hs] at HSL HIX
  obtain ⟨⟨b0, hs0, hn0⟩, ⟨b2, hs2, hn2⟩, ⟨b6, hs6, hn6⟩, hi4, hi5, hi8⟩ := T
  have k4 := byteAt_num l 4 (by omega)
  have k5 := byteAt_num l 5 (by omega)
  have k8 := byteAt_num l 8 (by omega)
  have hl0 : beNum (l.take 2) < 9223372036854775808 := by have := beNum_lt8 2 (l := l.take 2) (by rw [List.length_take]; omega); omega
  have hl2 : beNum ((l.drop 2).take 2) < 9223372036854775808 := by have := beNum_lt8 2 (l := (l.drop 2).take 2) (by rw [List.length_take]; omega); omega
  have hl6 : beNum ((l.drop 6).take 2) < 9223372036854775808 := by have := beNum_lt8 2 (l := (l.drop 6).take 2) (by rw [List.length_take]; omega); omega
  have l4 : byteAt l 4 < 256 := (l.getD 4 0).toNat_lt
  have l5 : byteAt l 5 < 256 := (l.getD 5 0).toNat_lt
  have l8 : byteAt l 8 < 256 := (l.getD 8 0).toNat_lt
  have HG : Hid (.agg #[.int .i64 ((beNum (l.take 2) : Nat) : Int), .int .i64 ((beNum ((l.drop 2).take 2) : Nat) : Int), .int .i64 ((byteAt l 4 : Nat) : Int), .int .i64 ((byteAt l 5 / 16 : Nat) : Int), .int .i64 ((byteAt l 5 % 16 : Nat) : Int), .int .i64 ((beNum ((l.drop 6).take 2) : Nat) : Int), .int .i64 ((byteAt l 8 / 2 % 16 : Nat) : Int), .bool (decide (byteAt l 8 % 2 = 1)), .int .u64 0, .int .u64 0, .int .u32 0, .int .i64 0, .int .u8 0, .int .u8 0, .int .u8 0] = (hd0 l).val) := Lib.hid (by unfold hd0; rw [k4, k5, k8]; rfl)
  have HFT : Hid (faultN l = if 9 < byteAt l 8 / 2 % 16 then 2 else if sizeN (((byteAt l 8 / 2 % 16 : Nat)) : Int) (decide (byteAt l 8 % 2 = 1)) = 0 then 3 else if l.length < sizeN (((byteAt l 8 / 2 % 16 : Nat)) : Int) (decide (byteAt l 8 % 2 = 1)) then 1 else if byteAt l 4 < sizeN (((byteAt l 8 / 2 % 16 : Nat)) : Int) (decide (byteAt l 8 % 2 = 1)) / 4 ∨ l.length < byteAt l 4 * 4 then 4 else 0) := Lib.hid (by
    unfold faultN; rw [if_neg (by omega)]; rfl)
  have HTY : Hid ((hd0 l).type = (((byteAt l 8 / 2 % 16 : Nat)) : Int) ∧ (hd0 l).x = decide (byteAt l 8 % 2 = 1) ∧ (hd0 l).off = ((byteAt l 4 : Nat) : Int)) := Lib.hid (by unfold hd0; rw [k4, k8]; exact ⟨rfl, rfl, rfl⟩)
  clear k4 k5 k8
  generalize beNum (l.take 2) = n0 at *
  generalize beNum ((l.drop 2).take 2) = n2 at *
  generalize beNum ((l.drop 6).take 2) = n6 at *
  generalize byteAt l 4 = x4 at *
  generalize byteAt l 5 = x5 at *
  generalize byteAt l 8 = x8 at *
  clear hs
  have h12 : ¬ ((s.size : Int) < 12) := by omega
  go_enter Tryz.func14, Tryz.ntmps14
  go_upto_region 3 with fail
  generalize hW1 : w.alloc _ = W1 at *
  refine Rg.regionV (by kernel_rfl) [11, 12, 13, 14, 15, 16, 17, 18, 19, 20, 21, 22, 23, 24, 25, 26, 27, 28, 29, 30, 31, 32, 33, 34, 35, 36, 37, 38, 39, 40, 41, 42, 43, 4, 149] (GtI 33 [.string s, .string b0, .int .u64 (n0 : Nat), .int .i64 (n0 : Nat), .string s, .string b2, .int .u64 (n2 : Nat), .int .i64 (n2 : Nat), .string s, .int .u8 (x4 : Nat), .int .i64 (x4 : Nat), .string s, .int .u8 (x5 : Nat), .int .u8 (x5 / 16 : Nat), .int .i64 (x5 / 16 : Nat), .string s, .int .u8 (x5 : Nat), .int .u8 (x5 % 16 : Nat), .int .i64 (x5 % 16 : Nat), .string s, .string b6, .int .u64 (n6 : Nat), .int .i64 (n6 : Nat), .string s, .int .u8 (x8 : Nat), .int .u8 (x8 / 2 : Nat), .int .u8 (x8 / 2 % 16 : Nat), .int .i64 (x8 / 2 % 16 : Nat), .string s, .int .u8 (x8 : Nat), .int .u8 (x8 % 2 : Nat), .bool (decide (x8 % 2 = 1)), .agg #[.int .i64 (n0 : Nat), .int .i64 (n2 : Nat), .int .i64 (x4 : Nat), .int .i64 (x5 / 16 : Nat), .int .i64 (x5 % 16 : Nat), .int .i64 (n6 : Nat), .int .i64 (x8 / 2 % 16 : Nat), .bool (decide (x8 % 2 = 1)), .int .u64 0, .int .u64 0, .int .u32 0, .int .i64 0, .int .u8 0, .int .u8 0, .int .u8 0]] W1.heap.size W1 (hd0 l)) (by kernel_rfl) (fun V => ?_) ⟨?_, ?_, ?_, ?_, ?_, ?_, ?_, ?_, ?_, ?_, ?_, ?_, ?_, ?_, ?_, ?_, ?_, ?_, ?_, ?_, ?_, ?_, ?_, ?_, ?_, ?_, ?_, ?_, ?_, ?_, ?_, ?_, ?_, ?_, ?_, trivial⟩ ?_
  · exact ⟨⟨bel_drewN W1 1, Nat.le_refl _⟩, fun _ _ h => (by cases h), fun h => (by cases h), fun h => (by cases h)⟩
  · intro L V a W hli hdeps hsl hVe hI K1 hk
    have e0 : a.eval (.tmp 0) = .string s := (hsl 0 (by decide)).trans rfl
    exact Rg.valJ hk (ex_move _ W _ _ _ rfl e0) (fun V' hV hv => hI.quiet 0 (by decide) V' hV (hv rfl))
  · intro L V a W hli hdeps hsl hVe hI K1 hk
    have e1 : a.eval (.tmp 11) = .string s := (hVe 0).symm.trans (hI.vals 0 (by decide) (hdeps ⟨0, .data⟩ (by simp) rfl))
    exact Rg.valJ hk (ex_slice _ W _ _ 0 2 _ _ rfl e1 rfl rfl hs0) (fun V' hV hv => hI.quiet 1 (by decide) V' hV (hv rfl))
  · intro L V a W hli hdeps hsl hVe hI K1 hk
    have e1 : a.eval (.tmp 12) = .string b0 := (hVe 1).symm.trans (hI.vals 1 (by decide) (hdeps ⟨1, .data⟩ (by simp) rfl))
    exact callJ hk (ex_num _ W _ _ _ _ rfl e1 rfl) ((hn0 W).mono fun e w' hh => ⟨_, hh.1, by rw [hh.2]; exact fun V' hV hv => hI.quiet 2 (by decide) V' hV (hv rfl)⟩)
  · intro L V a W hli hdeps hsl hVe hI K1 hk
    have e1 : a.eval (.tmp 13) = .int .u64 (n0 : Nat) := (hVe 2).symm.trans (hI.vals 2 (by decide) (hdeps ⟨2, .data⟩ (by simp) rfl))
    exact Rg.valJ hk (ex_conv64 _ W _ _ n0 hl0 rfl e1) (fun V' hV hv => hI.quiet 3 (by decide) V' hV (hv rfl))
  · intro L V a W hli hdeps hsl hVe hI K1 hk
    have e0 : a.eval (.tmp 0) = .string s := (hsl 0 (by decide)).trans rfl
    exact Rg.valJ hk (ex_move _ W _ _ _ rfl e0) (fun V' hV hv => hI.quiet 4 (by decide) V' hV (hv rfl))
  · intro L V a W hli hdeps hsl hVe hI K1 hk
    have e1 : a.eval (.tmp 15) = .string s := (hVe 4).symm.trans (hI.vals 4 (by decide) (hdeps ⟨4, .data⟩ (by simp) rfl))
    exact Rg.valJ hk (ex_slice _ W _ _ 2 4 _ _ rfl e1 rfl rfl hs2) (fun V' hV hv => hI.quiet 5 (by decide) V' hV (hv rfl))
  · intro L V a W hli hdeps hsl hVe hI K1 hk
    have e1 : a.eval (.tmp 16) = .string b2 := (hVe 5).symm.trans (hI.vals 5 (by decide) (hdeps ⟨5, .data⟩ (by simp) rfl))
    exact callJ hk (ex_num _ W _ _ _ _ rfl e1 rfl) ((hn2 W).mono fun e w' hh => ⟨_, hh.1, by rw [hh.2]; exact fun V' hV hv => hI.quiet 6 (by decide) V' hV (hv rfl)⟩)
  · intro L V a W hli hdeps hsl hVe hI K1 hk
    have e1 : a.eval (.tmp 17) = .int .u64 (n2 : Nat) := (hVe 6).symm.trans (hI.vals 6 (by decide) (hdeps ⟨6, .data⟩ (by simp) rfl))
    exact Rg.valJ hk (ex_conv64 _ W _ _ n2 hl2 rfl e1) (fun V' hV hv => hI.quiet 7 (by decide) V' hV (hv rfl))
  · intro L V a W hli hdeps hsl hVe hI K1 hk
    have e0 : a.eval (.tmp 0) = .string s := (hsl 0 (by decide)).trans rfl
    exact Rg.valJ hk (ex_move _ W _ _ _ rfl e0) (fun V' hV hv => hI.quiet 8 (by decide) V' hV (hv rfl))
  · intro L V a W hli hdeps hsl hVe hI K1 hk
    have e1 : a.eval (.tmp 19) = .string s := (hVe 8).symm.trans (hI.vals 8 (by decide) (hdeps ⟨8, .data⟩ (by simp) rfl))
    exact Rg.valJ hk (ex_index _ W _ _ 4 _ _ rfl e1 rfl hi4) (fun V' hV hv => hI.quiet 9 (by decide) V' hV (hv rfl))
  · intro L V a W hli hdeps hsl hVe hI K1 hk
    have e1 : a.eval (.tmp 20) = .int .u8 (x4 : Nat) := (hVe 9).symm.trans (hI.vals 9 (by decide) (hdeps ⟨9, .data⟩ (by simp) rfl))
    exact Rg.valJ hk (ex_conv8 _ W _ _ (x4) (by omega) rfl e1) (fun V' hV hv => hI.quiet 10 (by decide) V' hV (hv rfl))
  · intro L V a W hli hdeps hsl hVe hI K1 hk
    have e0 : a.eval (.tmp 0) = .string s := (hsl 0 (by decide)).trans rfl
    exact Rg.valJ hk (ex_move _ W _ _ _ rfl e0) (fun V' hV hv => hI.quiet 11 (by decide) V' hV (hv rfl))
  · intro L V a W hli hdeps hsl hVe hI K1 hk
    have e1 : a.eval (.tmp 22) = .string s := (hVe 11).symm.trans (hI.vals 11 (by decide) (hdeps ⟨11, .data⟩ (by simp) rfl))
    exact Rg.valJ hk (ex_index _ W _ _ 5 _ _ rfl e1 rfl hi5) (fun V' hV hv => hI.quiet 12 (by decide) V' hV (hv rfl))
  · intro L V a W hli hdeps hsl hVe hI K1 hk
    have e1 : a.eval (.tmp 23) = .int .u8 (x5 : Nat) := (hVe 12).symm.trans (hI.vals 12 (by decide) (hdeps ⟨12, .data⟩ (by simp) rfl))
    exact Rg.valJ hk (ex_quo8 _ W _ _ (x5) 16 (by omega) (by decide) rfl e1 rfl) (fun V' hV hv => hI.quiet 13 (by decide) V' hV (hv rfl))
  · intro L V a W hli hdeps hsl hVe hI K1 hk
    have e1 : a.eval (.tmp 24) = .int .u8 (x5 / 16 : Nat) := (hVe 13).symm.trans (hI.vals 13 (by decide) (hdeps ⟨13, .data⟩ (by simp) rfl))
    exact Rg.valJ hk (ex_conv8 _ W _ _ (x5 / 16) (by omega) rfl e1) (fun V' hV hv => hI.quiet 14 (by decide) V' hV (hv rfl))
  · intro L V a W hli hdeps hsl hVe hI K1 hk
    have e0 : a.eval (.tmp 0) = .string s := (hsl 0 (by decide)).trans rfl
    exact Rg.valJ hk (ex_move _ W _ _ _ rfl e0) (fun V' hV hv => hI.quiet 15 (by decide) V' hV (hv rfl))
  · intro L V a W hli hdeps hsl hVe hI K1 hk
    have e1 : a.eval (.tmp 26) = .string s := (hVe 15).symm.trans (hI.vals 15 (by decide) (hdeps ⟨15, .data⟩ (by simp) rfl))
    exact Rg.valJ hk (ex_index _ W _ _ 5 _ _ rfl e1 rfl hi5) (fun V' hV hv => hI.quiet 16 (by decide) V' hV (hv rfl))
  · intro L V a W hli hdeps hsl hVe hI K1 hk
    have e1 : a.eval (.tmp 27) = .int .u8 (x5 : Nat) := (hVe 16).symm.trans (hI.vals 16 (by decide) (hdeps ⟨16, .data⟩ (by simp) rfl))
    exact Rg.valJ hk (ex_rem8 _ W _ _ (x5) 16 (by omega) (by decide) rfl e1 rfl) (fun V' hV hv => hI.quiet 17 (by decide) V' hV (hv rfl))
  · intro L V a W hli hdeps hsl hVe hI K1 hk
    have e1 : a.eval (.tmp 28) = .int .u8 (x5 % 16 : Nat) := (hVe 17).symm.trans (hI.vals 17 (by decide) (hdeps ⟨17, .data⟩ (by simp) rfl))
    exact Rg.valJ hk (ex_conv8 _ W _ _ (x5 % 16) (by omega) rfl e1) (fun V' hV hv => hI.quiet 18 (by decide) V' hV (hv rfl))
  · intro L V a W hli hdeps hsl hVe hI K1 hk
    have e0 : a.eval (.tmp 0) = .string s := (hsl 0 (by decide)).trans rfl
    exact Rg.valJ hk (ex_move _ W _ _ _ rfl e0) (fun V' hV hv => hI.quiet 19 (by decide) V' hV (hv rfl))
  · intro L V a W hli hdeps hsl hVe hI K1 hk
    have e1 : a.eval (.tmp 30) = .string s := (hVe 19).symm.trans (hI.vals 19 (by decide) (hdeps ⟨19, .data⟩ (by simp) rfl))
    exact Rg.valJ hk (ex_slice _ W _ _ 6 8 _ _ rfl e1 rfl rfl hs6) (fun V' hV hv => hI.quiet 20 (by decide) V' hV (hv rfl))
  · intro L V a W hli hdeps hsl hVe hI K1 hk
    have e1 : a.eval (.tmp 31) = .string b6 := (hVe 20).symm.trans (hI.vals 20 (by decide) (hdeps ⟨20, .data⟩ (by simp) rfl))
    exact callJ hk (ex_num _ W _ _ _ _ rfl e1 rfl) ((hn6 W).mono fun e w' hh => ⟨_, hh.1, by rw [hh.2]; exact fun V' hV hv => hI.quiet 21 (by decide) V' hV (hv rfl)⟩)
  · intro L V a W hli hdeps hsl hVe hI K1 hk
    have e1 : a.eval (.tmp 32) = .int .u64 (n6 : Nat) := (hVe 21).symm.trans (hI.vals 21 (by decide) (hdeps ⟨21, .data⟩ (by simp) rfl))
    exact Rg.valJ hk (ex_conv64 _ W _ _ n6 hl6 rfl e1) (fun V' hV hv => hI.quiet 22 (by decide) V' hV (hv rfl))
  · intro L V a W hli hdeps hsl hVe hI K1 hk
    have e0 : a.eval (.tmp 0) = .string s := (hsl 0 (by decide)).trans rfl
    exact Rg.valJ hk (ex_move _ W _ _ _ rfl e0) (fun V' hV hv => hI.quiet 23 (by decide) V' hV (hv rfl))
  · intro L V a W hli hdeps hsl hVe hI K1 hk
    have e1 : a.eval (.tmp 34) = .string s := (hVe 23).symm.trans (hI.vals 23 (by decide) (hdeps ⟨23, .data⟩ (by simp) rfl))
    exact Rg.valJ hk (ex_index _ W _ _ 8 _ _ rfl e1 rfl hi8) (fun V' hV hv => hI.quiet 24 (by decide) V' hV (hv rfl))
  · intro L V a W hli hdeps hsl hVe hI K1 hk
    have e1 : a.eval (.tmp 35) = .int .u8 (x8 : Nat) := (hVe 24).symm.trans (hI.vals 24 (by decide) (hdeps ⟨24, .data⟩ (by simp) rfl))
    exact Rg.valJ hk (ex_quo8 _ W _ _ (x8) 2 (by omega) (by decide) rfl e1 rfl) (fun V' hV hv => hI.quiet 25 (by decide) V' hV (hv rfl))
  · intro L V a W hli hdeps hsl hVe hI K1 hk
    have e1 : a.eval (.tmp 36) = .int .u8 (x8 / 2 : Nat) := (hVe 25).symm.trans (hI.vals 25 (by decide) (hdeps ⟨25, .data⟩ (by simp) rfl))
    exact Rg.valJ hk (ex_rem8 _ W _ _ (x8 / 2) 16 (by omega) (by decide) rfl e1 rfl) (fun V' hV hv => hI.quiet 26 (by decide) V' hV (hv rfl))
  · intro L V a W hli hdeps hsl hVe hI K1 hk
    have e1 : a.eval (.tmp 37) = .int .u8 (x8 / 2 % 16 : Nat) := (hVe 26).symm.trans (hI.vals 26 (by decide) (hdeps ⟨26, .data⟩ (by simp) rfl))
    exact Rg.valJ hk (ex_conv8 _ W _ _ (x8 / 2 % 16) (by omega) rfl e1) (fun V' hV hv => hI.quiet 27 (by decide) V' hV (hv rfl))
  · intro L V a W hli hdeps hsl hVe hI K1 hk
    have e0 : a.eval (.tmp 0) = .string s := (hsl 0 (by decide)).trans rfl
    exact Rg.valJ hk (ex_move _ W _ _ _ rfl e0) (fun V' hV hv => hI.quiet 28 (by decide) V' hV (hv rfl))
  · intro L V a W hli hdeps hsl hVe hI K1 hk
    have e1 : a.eval (.tmp 39) = .string s := (hVe 28).symm.trans (hI.vals 28 (by decide) (hdeps ⟨28, .data⟩ (by simp) rfl))
    exact Rg.valJ hk (ex_index _ W _ _ 8 _ _ rfl e1 rfl hi8) (fun V' hV hv => hI.quiet 29 (by decide) V' hV (hv rfl))
  · intro L V a W hli hdeps hsl hVe hI K1 hk
    have e1 : a.eval (.tmp 40) = .int .u8 (x8 : Nat) := (hVe 29).symm.trans (hI.vals 29 (by decide) (hdeps ⟨29, .data⟩ (by simp) rfl))
    exact Rg.valJ hk (ex_rem8 _ W _ _ (x8) 2 (by omega) (by decide) rfl e1 rfl) (fun V' hV hv => hI.quiet 30 (by decide) V' hV (hv rfl))
  · intro L V a W hli hdeps hsl hVe hI K1 hk
    have e1 : a.eval (.tmp 41) = .int .u8 (x8 % 2 : Nat) := (hVe 30).symm.trans (hI.vals 30 (by decide) (hdeps ⟨30, .data⟩ (by simp) rfl))
    exact Rg.valJ hk (ex_eq8 _ W _ _ (x8 % 2) rfl e1 rfl) (fun V' hV hv => hI.quiet 31 (by decide) V' hV (hv rfl))
  · intro L V a W hli hdeps hsl hVe hI K1 hk
    have e0 : a.eval (.tmp 14) = .int .i64 (n0 : Nat) := (hVe 3).symm.trans (hI.vals 3 (by decide) (hdeps ⟨3, .data⟩ (by simp) rfl))
    have e1 : a.eval (.tmp 18) = .int .i64 (n2 : Nat) := (hVe 7).symm.trans (hI.vals 7 (by decide) (hdeps ⟨7, .data⟩ (by simp) rfl))
    have e2 : a.eval (.tmp 21) = .int .i64 (x4 : Nat) := (hVe 10).symm.trans (hI.vals 10 (by decide) (hdeps ⟨10, .data⟩ (by simp) rfl))
    have e3 : a.eval (.tmp 25) = .int .i64 (x5 / 16 : Nat) := (hVe 14).symm.trans (hI.vals 14 (by decide) (hdeps ⟨14, .data⟩ (by simp) rfl))
    have e4 : a.eval (.tmp 29) = .int .i64 (x5 % 16 : Nat) := (hVe 18).symm.trans (hI.vals 18 (by decide) (hdeps ⟨18, .data⟩ (by simp) rfl))
    have e5 : a.eval (.tmp 33) = .int .i64 (n6 : Nat) := (hVe 22).symm.trans (hI.vals 22 (by decide) (hdeps ⟨22, .data⟩ (by simp) rfl))
    have e6 : a.eval (.tmp 38) = .int .i64 (x8 / 2 % 16 : Nat) := (hVe 27).symm.trans (hI.vals 27 (by decide) (hdeps ⟨27, .data⟩ (by simp) rfl))
    have e7 : a.eval (.tmp 42) = .bool (decide (x8 % 2 = 1)) := (hVe 31).symm.trans (hI.vals 31 (by decide) (hdeps ⟨31, .data⟩ (by simp) rfl))
    exact Rg.valJ hk (ex_build8 _ W _ _ _ _ _ _ _ _ _ _ _ _ _ _ _ _ _ rfl e0 e1 e2 e3 e4 e5 e6 e7) (fun V' hV hv => hI.quiet 32 (by decide) V' hV (hv rfl))
  · intro L V a W hli hdeps hsl hVe hI K1 hk
    exact Rg.valJ hk (ex_alloc26 _ W _ rfl) (fun V' hV hv => hI.alloc hli V' hV (hv rfl))
  · intro L V a W hli hdeps hsl hVe hI K1 hk
    have hl33 := hdeps ⟨33, .data⟩ (by simp) rfl
    have n34 := hli
    obtain ⟨H, q1, q2, q3⟩ := hI.cell hl33
    rw [n34, if_neg (by decide)] at q3
    have e1 : a.eval (.tmp 4) = .pointer (some ⟨H, 0, none⟩) := (hVe 33).symm.trans q1
    have e2 : a.eval (.tmp 43) = .agg #[.int .i64 (n0 : Nat), .int .i64 (n2 : Nat), .int .i64 (x4 : Nat), .int .i64 (x5 / 16 : Nat), .int .i64 (x5 % 16 : Nat), .int .i64 (n6 : Nat), .int .i64 (x8 / 2 % 16 : Nat), .bool (decide (x8 % 2 = 1)), .int .u64 0, .int .u64 0, .int .u32 0, .int .i64 0, .int .u8 0, .int .u8 0, .int .u8 0] := (hVe 32).symm.trans (hI.vals 32 (by decide) (hdeps ⟨32, .data⟩ (by simp) rfl))
    exact store_hdJ hk rfl rfl H (hd0 l) _ e1 (e2.trans HG.out) q3 (fun W' hb hg V' hV hv => hI.store n34 hl33 H q1 hg hb V' hV)
  · intro W' f L V hL hVf hI
    obtain ⟨H, q1, q2, q3⟩ := hI.cell (hL 33 (by decide))
    rw [if_pos (hL 34 (by decide))] at q3
    have e4 : f 4 = .pointer (some ⟨H, 0, none⟩) := (hVf 33).symm.trans q1
    have hb := hI.bel
    clear hI hL hVf q1
    simp only [Rg.puts, List.foldl_cons, List.foldl_nil, Act.put, List.setIfInBounds_toArray, List.set_cons_succ, List.set_cons_zero, e4]
    have c6 := q3.at_.2.2.2.2.2.2.1
    have c7 := q3.at_.2.2.2.2.2.2.2.1
    have c2 := q3.at_.2.2.1
    have HQ := Lib.hid q3
    have HLH : Hid (w.heap.size < H) := Lib.hid (by
      have h2 : w.heap.size < W1.heap.size := by rw [← hW1]; simp
      omega)
    have HB := Lib.hid hb
    clear hb q3 hn0 hn2 hn6 hs0 hs2 hs6 hi4 hi5 hi8 e4
    obtain ⟨y1, y2, y3⟩ := HTY.out
    rw [y1] at c6; rw [y2] at c7; rw [y3] at c2
    obtain ⟨T, hT⟩ : ∃ T, x8 / 2 % 16 = T := ⟨_, rfl⟩
    obtain ⟨X, hX⟩ : ∃ X, decide (x8 % 2 = 1) = X := ⟨_, rfl⟩
    rw [hT] at c6 HFT
    rw [hX] at c7 HFT
    have hTb : T ≤ 15 := by omega
    have HT6 : Hid ((hd0 l).type = (T : Int)) := Lib.hid (by rw [y1, hT])
    have HT7 : Hid ((hd0 l).x = X) := Lib.hid (by rw [y2, hX])
    have hwz : w.heap.size < W1.heap.size := by rw [← hW1]; simp
    have HZ : Hid (HdBlk Hd.zero w.heap.size W') := Lib.hid (by
      have h1 : HdBlk Hd.zero w.heap.size W1 := by rw [← hW1]; exact hd_new w
      exact h1.below HB.out.1)
    have HBW : Hid (Below w.heap.size w W') := Lib.hid (by
      have h1 : Below w.heap.size w W1 := by rw [← hW1]; exact bel_alloc w _
      exact h1.trans (HB.out.1.mono (Nat.le_of_lt hwz)))
    clear y1 y2 y3 hW1 hT hX HTY
    by_cases hT9 : 9 < T
    · rw [if_pos hT9] at HFT
      have e9 : decide ((9 : Int) < (T : Int)) = true := decide_eq_true (by omega)
      clear hT9
      go_wp2_with (refine store_blk rfl _ _ rfl _ Hd.zero Hd.zero rfl rfl HZ.out ?_; intro W2 hc2 hg2)
      refine bodyPost_ret (results_pair Tryz.results14 _ _ w.heap.size Hd.zero.cellsA rfl (load_hd hc2)) rfl ⟨fun _ => ⟨by rw [HFT.out]; rfl, HBW.out.grown hg2 HBW.out.size (fun k hk => by cases hk; exact Nat.le_refl _)⟩, fun h0 => by rw [HFT.out] at h0; cases h0⟩
    · rw [if_neg hT9] at HFT
      have e9 : decide ((9 : Int) < (T : Int)) = false := decide_eq_false (by omega)
      have HSZ := Lib.hid (fun W => refSize_any (T : Int) X W)
      have hS4 := sizeN_four (T : Int) X
      have hSl := sizeN_le (T : Int) X
      have HTX : Hid (sizeN (T : Int) X = sizeN (T : Int) X) := Lib.hid rfl
      obtain ⟨S, hS⟩ : ∃ S, sizeN (T : Int) X = S := ⟨_, rfl⟩
      have HS := Lib.hid hS
      rw [hS] at HFT HSZ hS4 hSl
      clear hS hT9 HTX
      go_upto_region 7 with (go_at_call 12; refine (HSZ.out _).mono ?_; rintro e w5 ⟨rfl, rfl⟩)
      obtain ⟨Z, hZ⟩ : ∃ Z : Int, (l.length : Int) = Z := ⟨_, rfl⟩
      by_cases hS0 : S = 0
      · rw [if_pos hS0] at HFT
        have e1 : ((S : Int) == 0) = true := by rw [beq_iff_eq]; omega
        clear hS0
        go_wp2_with (refine store_blk rfl _ _ rfl _ Hd.zero Hd.zero rfl rfl HZ.out ?_; intro W2 hc2 hg2)
        refine bodyPost_ret (results_pair Tryz.results14 _ _ w.heap.size Hd.zero.cellsA rfl (load_hd hc2)) rfl ⟨fun _ => ⟨by rw [HFT.out]; rfl, HBW.out.grown hg2 HBW.out.size (fun k hk => by cases hk; exact Nat.le_refl _)⟩, fun h0 => by rw [HFT.out] at h0; cases h0⟩
      · rw [if_neg hS0] at HFT
        have e1 : ((S : Int) == 0) = false := by rw [beq_eq_false_iff_ne]; omega
        have HN0 := Lib.hid hS0
        clear hS0
        by_cases hlS : l.length < S
        · rw [if_pos hlS] at HFT
          have e2 : decide (Z < (S : Int)) = true := decide_eq_true (by omega)
          clear hlS
          go_wp2_with (refine store_blk rfl _ _ rfl _ Hd.zero Hd.zero rfl rfl HZ.out ?_; intro W2 hc2 hg2)
          refine bodyPost_ret (results_pair Tryz.results14 _ _ w.heap.size Hd.zero.cellsA rfl (load_hd hc2)) rfl ⟨fun _ => ⟨by rw [HFT.out]; rfl, HBW.out.grown hg2 HBW.out.size (fun k hk => by cases hk; exact Nat.le_refl _)⟩, fun h0 => by rw [HFT.out] at h0; cases h0⟩
        · rw [if_neg hlS] at HFT
          have e2 : decide (Z < (S : Int)) = false := decide_eq_false (by omega)
          have hlS2 : (S : Int) ≤ Z := by omega
          clear hlS
          by_cases ho : x4 < S / 4 ∨ l.length < x4 * 4
          · rw [if_pos ho] at HFT
            have hc : decide (4 * (x4 : Int) < (S : Int)) = true ∨ decide (4 * (x4 : Int) < (S : Int)) = false ∧ decide (Z < 4 * (x4 : Int)) = true := by
              simp only [decide_eq_true_eq, decide_eq_false_iff_not]; omega
            clear ho
            rcases hc with e3 | ⟨e3, e4⟩
            all_goals
              go_wp2_with (refine store_blk rfl _ _ rfl _ Hd.zero Hd.zero rfl rfl HZ.out ?_; intro W2 hc2 hg2)
              refine bodyPost_ret (results_pair Tryz.results14 _ _ w.heap.size Hd.zero.cellsA rfl (load_hd hc2)) rfl ⟨fun _ => ⟨by rw [HFT.out]; rfl, HBW.out.grown hg2 HBW.out.size (fun k hk => by cases hk; exact Nat.le_refl _)⟩, fun h0 => by rw [HFT.out] at h0; cases h0⟩
          · rw [if_neg ho] at HFT
            have e3 : decide (4 * (x4 : Int) < (S : Int)) = false := decide_eq_false (by omega)
            have e4 : decide (Z < 4 * (x4 : Int)) = false := decide_eq_false (by omega)
            clear ho
            go_upto_region 13 with fail
            have HG0 : Hid (GS (hd0 l) H (T : Int) X w W') := Lib.hid ⟨HQ.out, HT6.out, HT7.out, HZ.out, HBW.out, HLH.out⟩
            have HA := Lib.hid (fun W => refHasAck_any (T : Int) W)
            clear e1 e2 e3 e4 e9 c2 hTb hS4 hSl HSZ HQ HZ HBW HLH HB
            generalize (T : Int) = t at *
            rcases get_kinds t X (by rw [HS.out]; exact HN0.out) with ⟨hX, hA, hSv, hCd, hSz, e0, e1, e7⟩ | ⟨hX, hA, hSv, hCd, hSz, e0, e1, e7⟩ | ⟨hX, hA, hSv, hCd, hSz, e0, e1, e7⟩ | ⟨hX, hA, hSv, hCd, hSz, e0, e1, e7⟩ | ⟨hX, hA, hSv, hCd, hSz, e0, e1, e7⟩ | ⟨hX, hA, hSv, hCd, hSz, e0, e1, e7⟩ | ⟨hX, hA, hSv, hCd, hSz, e0, e1, e7⟩
            · cases hX
              have hZ2 : 12 ≤ l.length := by have := HS.out; omega
              rw [hA] at HA
              clear hSz
              obtain ⟨bA, nA, sA, qA, vA, zA⟩ := HSL.out 9 12 (by decide) (by omega) (by decide) 9 12 rfl rfl
              have VA := Lib.hid vA
              clear vA zA
              clear hZ2
              have d8 := HG0.out.d8
              have f8 := HG0.out.blk.free 8
              go_upto_region 15 with (first | (go_at_call 44; with_reducible refine (qA _).mono ?_; rintro e w5 ⟨rfl, rfl⟩) | (go_at_call 10; with_reducible refine (HA.out _).mono ?_; rintro e w5 ⟨rfl, rfl⟩))
              have G1 := HG0.out.set { hd0 l with seq := nA } 8 (.int .u64 nA) rfl rfl rfl
              generalize World.setCell _ ⟨H, 8, none⟩ _ = W1 at *
              clear c6 c7 d8 f8
              have c6 := G1.c6; have c7 := G1.c7
              have HG1 := Lib.hid G1
              clear G1
              have hZB := HG1.out.zero; have hBL := HG1.out.bel; have hBK := HG1.out.blk; have hlt := HG1.out.lt
              have hGE : getHd l = { hd0 l with seq := nA } := by
                unfold getHd hd1 Hd.withExtras numsLen seqOf ackOf
                simp [HT6.out, HT7.out, hA, hSv, hCd, VA.out, seqPad, numLen, ackPad, List.drop_drop]
              have HGE := Lib.hid hGE; have HBK := Lib.hid hBK; have HZB := Lib.hid hZB; have HBL := Lib.hid hBL; have HLT := Lib.hid hlt
              clear hGE hBK hZB hBL hlt hA hSv hCd
              go_wp2_with (first | (go_at_call 44; with_reducible refine (qA _).mono ?_; rintro e w5 ⟨rfl, rfl⟩) | (go_at_call 10; with_reducible refine (HA.out _).mono ?_; rintro e w5 ⟨rfl, rfl⟩) | (refine load_blk rfl _ rfl H rfl _ HBK.out ?_) | (refine store_blk rfl _ _ rfl w.heap.size Hd.zero _ rfl rfl HZB.out ?_; intro W9 hc9 hg9))
              refine bodyPost_ret (results_pair Tryz.results14 _ _ w.heap.size _ rfl (load_hd hc9)) rfl ⟨fun h0 => absurd HFT.out h0, fun _ => ⟨by rw [HGE.out]; rfl, HBL.out.grown hg9 HBL.out.size (fun k hk => by cases hk; exact Nat.le_refl _)⟩⟩
            · cases hX
              have hZ2 : 16 ≤ l.length := by have := HS.out; omega
              rw [hA] at HA
              clear hSz
              obtain ⟨bA, nA, sA, qA, vA, zA⟩ := HSL.out 9 12 (by decide) (by omega) (by decide) 9 12 rfl rfl
              have VA := Lib.hid vA
              clear vA zA
              obtain ⟨bC, nC, sC, qC, vC, zC⟩ := HSL.out 13 16 (by decide) (by omega) (by decide) 13 16 rfl rfl
              have VC := Lib.hid vC
              clear vC zC
              clear hZ2
              have d8 := HG0.out.d8
              have f8 := HG0.out.blk.free 8
              go_upto_region 15 with (first | (go_at_call 44; with_reducible refine (qA _).mono ?_; rintro e w5 ⟨rfl, rfl⟩) | (go_at_call 10; with_reducible refine (HA.out _).mono ?_; rintro e w5 ⟨rfl, rfl⟩))
              have G1 := HG0.out.set { hd0 l with seq := nA } 8 (.int .u64 nA) rfl rfl rfl
              generalize World.setCell _ ⟨H, 8, none⟩ _ = W1 at *
              clear c6 c7 d8 f8
              have c6 := G1.c6; have c7 := G1.c7
              have HG1 := Lib.hid G1
              clear G1
              have d9 := HG1.out.d9
              have f9 := HG1.out.blk.free 9
              go_upto_region 24 with (first | (go_at_call 44; with_reducible refine (qC _).mono ?_; rintro e w5 ⟨rfl, rfl⟩) | (go_at_call 10; with_reducible refine (HA.out _).mono ?_; rintro e w5 ⟨rfl, rfl⟩))
              have G2 := HG1.out.set { hd0 l with seq := nA, ack := nC } 9 (.int .u64 nC) rfl rfl rfl
              generalize World.setCell _ ⟨H, 9, none⟩ _ = W2 at *
              clear c6 c7 d9 f9
              have c6 := G2.c6; have c7 := G2.c7
              have HG2 := Lib.hid G2
              clear G2
              have hZB := HG2.out.zero; have hBL := HG2.out.bel; have hBK := HG2.out.blk; have hlt := HG2.out.lt
              have hGE : getHd l = { hd0 l with seq := nA, ack := nC } := by
                unfold getHd hd1 Hd.withExtras numsLen seqOf ackOf
                simp [HT6.out, HT7.out, hA, hSv, hCd, VA.out, VC.out, seqPad, numLen, ackPad, List.drop_drop]
              have HGE := Lib.hid hGE; have HBK := Lib.hid hBK; have HZB := Lib.hid hZB; have HBL := Lib.hid hBL; have HLT := Lib.hid hlt
              clear hGE hBK hZB hBL hlt hA hSv hCd
              go_wp2_with (first | (go_at_call 44; with_reducible refine (qA _).mono ?_; rintro e w5 ⟨rfl, rfl⟩) | (go_at_call 10; with_reducible refine (HA.out _).mono ?_; rintro e w5 ⟨rfl, rfl⟩) | (refine load_blk rfl _ rfl H rfl _ HBK.out ?_) | (refine store_blk rfl _ _ rfl w.heap.size Hd.zero _ rfl rfl HZB.out ?_; intro W9 hc9 hg9))
              refine bodyPost_ret (results_pair Tryz.results14 _ _ w.heap.size _ rfl (load_hd hc9)) rfl ⟨fun h0 => absurd HFT.out h0, fun _ => ⟨by rw [HGE.out]; rfl, HBL.out.grown hg9 HBL.out.size (fun k hk => by cases hk; exact Nat.le_refl _)⟩⟩
            · cases hX
              have hZ2 : 20 ≤ l.length := by have := HS.out; omega
              rw [hA] at HA
              clear hSz
              obtain ⟨bA, nA, sA, qA, vA, zA⟩ := HSL.out 9 12 (by decide) (by omega) (by decide) 9 12 rfl rfl
              have VA := Lib.hid vA
              clear vA zA
              obtain ⟨bB, nB, sB, qB, vB, zB⟩ := HSL.out 10 16 (by decide) (by omega) (by decide) 10 16 rfl rfl
              have VB := Lib.hid vB
              clear vB zB
              obtain ⟨bD, nD, sD, qD, vD, zD⟩ := HSL.out 16 20 (by decide) (by omega) (by decide) 16 20 rfl rfl
              have VD := Lib.hid vD
              clear vD
              clear hZ2
              have d8 := HG0.out.d8
              have f8 := HG0.out.blk.free 8
              go_upto_region 15 with (first | (go_at_call 44; with_reducible refine (qA _).mono ?_; rintro e w5 ⟨rfl, rfl⟩) | (go_at_call 10; with_reducible refine (HA.out _).mono ?_; rintro e w5 ⟨rfl, rfl⟩))
              have G1 := HG0.out.set { hd0 l with seq := nA } 8 (.int .u64 nA) rfl rfl rfl
              generalize World.setCell _ ⟨H, 8, none⟩ _ = W1 at *
              clear c6 c7 d8 f8
              have c6 := G1.c6; have c7 := G1.c7
              have HG1 := Lib.hid G1
              clear G1
              have d8 := HG1.out.d8
              have f8 := HG1.out.blk.free 8
              go_upto_region 18 with (first | (go_at_call 44; with_reducible refine (qB _).mono ?_; rintro e w5 ⟨rfl, rfl⟩) | (go_at_call 10; with_reducible refine (HA.out _).mono ?_; rintro e w5 ⟨rfl, rfl⟩))
              have G2 := HG1.out.set { hd0 l with seq := nB } 8 (.int .u64 nB) rfl rfl rfl
              generalize World.setCell _ ⟨H, 8, none⟩ _ = W2 at *
              clear c6 c7 d8 f8
              have c6 := G2.c6; have c7 := G2.c7
              have HG2 := Lib.hid G2
              clear G2
              have d10 := HG2.out.d10
              have f10 := HG2.out.blk.free 10
              go_upto_region 31 with (first | (go_at_call 44; with_reducible refine (qD _).mono ?_; rintro e w5 ⟨rfl, rfl⟩) | (go_at_call 10; with_reducible refine (HA.out _).mono ?_; rintro e w5 ⟨rfl, rfl⟩))
              have G3 := HG2.out.set { hd0 l with seq := nB, service := nD } 10 (.int .u32 nD) rfl rfl rfl
              generalize World.setCell _ ⟨H, 10, none⟩ _ = W3 at *
              clear c6 c7 d10 f10
              have c6 := G3.c6; have c7 := G3.c7
              have HG3 := Lib.hid G3
              clear G3
              have hZB := HG3.out.zero; have hBL := HG3.out.bel; have hBK := HG3.out.blk; have hlt := HG3.out.lt
              have hGE : getHd l = { hd0 l with seq := nB, service := nD } := by
                unfold getHd hd1 Hd.withExtras numsLen seqOf ackOf
                simp [HT6.out, HT7.out, hA, hSv, hCd, VB.out, VD.out, seqPad, numLen, ackPad, List.drop_drop]
              have HGE := Lib.hid hGE; have HBK := Lib.hid hBK; have HZB := Lib.hid hZB; have HBL := Lib.hid hBL; have HLT := Lib.hid hlt
              clear hGE hBK hZB hBL hlt hA hSv hCd
              go_wp2_with (first | (go_at_call 44; with_reducible refine (qA _).mono ?_; rintro e w5 ⟨rfl, rfl⟩) | (go_at_call 10; with_reducible refine (HA.out _).mono ?_; rintro e w5 ⟨rfl, rfl⟩) | (refine load_blk rfl _ rfl H rfl _ HBK.out ?_) | (refine store_blk rfl _ _ rfl w.heap.size Hd.zero _ rfl rfl HZB.out ?_; intro W9 hc9 hg9))
              refine bodyPost_ret (results_pair Tryz.results14 _ _ w.heap.size _ rfl (load_hd hc9)) rfl ⟨fun h0 => absurd HFT.out h0, fun _ => ⟨by rw [HGE.out]; rfl, HBL.out.grown hg9 HBL.out.size (fun k hk => by cases hk; exact Nat.le_refl _)⟩⟩
            · cases hX
              have hZ2 : 28 ≤ l.length := by have := HS.out; omega
              rw [hA] at HA
              clear hSz
              obtain ⟨bA, nA, sA, qA, vA, zA⟩ := HSL.out 9 12 (by decide) (by omega) (by decide) 9 12 rfl rfl
              have VA := Lib.hid vA
              clear vA zA
              obtain ⟨bB, nB, sB, qB, vB, zB⟩ := HSL.out 10 16 (by decide) (by omega) (by decide) 10 16 rfl rfl
              have VB := Lib.hid vB
              clear vB zB
              obtain ⟨bC, nC, sC, qC, vC, zC⟩ := HSL.out 18 24 (by decide) (by omega) (by decide) 18 24 rfl rfl
              have VC := Lib.hid vC
              clear vC zC
              obtain ⟨bD, nD, sD, qD, vD, zD⟩ := HSL.out 24 28 (by decide) (by omega) (by decide) 24 28 rfl rfl
              have VD := Lib.hid vD
              clear vD
              clear hZ2
              have d8 := HG0.out.d8
              have f8 := HG0.out.blk.free 8
              go_upto_region 15 with (first | (go_at_call 44; with_reducible refine (qA _).mono ?_; rintro e w5 ⟨rfl, rfl⟩) | (go_at_call 10; with_reducible refine (HA.out _).mono ?_; rintro e w5 ⟨rfl, rfl⟩))
              have G1 := HG0.out.set { hd0 l with seq := nA } 8 (.int .u64 nA) rfl rfl rfl
              generalize World.setCell _ ⟨H, 8, none⟩ _ = W1 at *
              clear c6 c7 d8 f8
              have c6 := G1.c6; have c7 := G1.c7
              have HG1 := Lib.hid G1
              clear G1
              have d8 := HG1.out.d8
              have f8 := HG1.out.blk.free 8
              go_upto_region 18 with (first | (go_at_call 44; with_reducible refine (qB _).mono ?_; rintro e w5 ⟨rfl, rfl⟩) | (go_at_call 10; with_reducible refine (HA.out _).mono ?_; rintro e w5 ⟨rfl, rfl⟩))
              have G2 := HG1.out.set { hd0 l with seq := nB } 8 (.int .u64 nB) rfl rfl rfl
              generalize World.setCell _ ⟨H, 8, none⟩ _ = W2 at *
              clear c6 c7 d8 f8
              have c6 := G2.c6; have c7 := G2.c7
              have HG2 := Lib.hid G2
              clear G2
              have d9 := HG2.out.d9
              have f9 := HG2.out.blk.free 9
              go_upto_region 24 with (first | (go_at_call 44; with_reducible refine (qC _).mono ?_; rintro e w5 ⟨rfl, rfl⟩) | (go_at_call 10; with_reducible refine (HA.out _).mono ?_; rintro e w5 ⟨rfl, rfl⟩))
              have G3 := HG2.out.set { hd0 l with seq := nB, ack := nC } 9 (.int .u64 nC) rfl rfl rfl
              generalize World.setCell _ ⟨H, 9, none⟩ _ = W3 at *
              clear c6 c7 d9 f9
              have c6 := G3.c6; have c7 := G3.c7
              have HG3 := Lib.hid G3
              clear G3
              have d10 := HG3.out.d10
              have f10 := HG3.out.blk.free 10
              go_upto_region 31 with (first | (go_at_call 44; with_reducible refine (qD _).mono ?_; rintro e w5 ⟨rfl, rfl⟩) | (go_at_call 10; with_reducible refine (HA.out _).mono ?_; rintro e w5 ⟨rfl, rfl⟩))
              have G4 := HG3.out.set { hd0 l with seq := nB, ack := nC, service := nD } 10 (.int .u32 nD) rfl rfl rfl
              generalize World.setCell _ ⟨H, 10, none⟩ _ = W4 at *
              clear c6 c7 d10 f10
              have c6 := G4.c6; have c7 := G4.c7
              have HG4 := Lib.hid G4
              clear G4
              have hZB := HG4.out.zero; have hBL := HG4.out.bel; have hBK := HG4.out.blk; have hlt := HG4.out.lt
              have hGE : getHd l = { hd0 l with seq := nB, ack := nC, service := nD } := by
                unfold getHd hd1 Hd.withExtras numsLen seqOf ackOf
                simp [HT6.out, HT7.out, hA, hSv, hCd, VB.out, VC.out, VD.out, seqPad, numLen, ackPad, List.drop_drop]
              have HGE := Lib.hid hGE; have HBK := Lib.hid hBK; have HZB := Lib.hid hZB; have HBL := Lib.hid hBL; have HLT := Lib.hid hlt
              clear hGE hBK hZB hBL hlt hA hSv hCd
              go_wp2_with (first | (go_at_call 44; with_reducible refine (qA _).mono ?_; rintro e w5 ⟨rfl, rfl⟩) | (go_at_call 10; with_reducible refine (HA.out _).mono ?_; rintro e w5 ⟨rfl, rfl⟩) | (refine load_blk rfl _ rfl H rfl _ HBK.out ?_) | (refine store_blk rfl _ _ rfl w.heap.size Hd.zero _ rfl rfl HZB.out ?_; intro W9 hc9 hg9))
              refine bodyPost_ret (results_pair Tryz.results14 _ _ w.heap.size _ rfl (load_hd hc9)) rfl ⟨fun h0 => absurd HFT.out h0, fun _ => ⟨by rw [HGE.out]; rfl, HBL.out.grown hg9 HBL.out.size (fun k hk => by cases hk; exact Nat.le_refl _)⟩⟩
            · cases hX
              have hZ2 : 16 ≤ l.length := by have := HS.out; omega
              rw [hA] at HA
              clear hSz
              obtain ⟨bA, nA, sA, qA, vA, zA⟩ := HSL.out 9 12 (by decide) (by omega) (by decide) 9 12 rfl rfl
              have VA := Lib.hid vA
              clear vA zA
              obtain ⟨bB, nB, sB, qB, vB, zB⟩ := HSL.out 10 16 (by decide) (by omega) (by decide) 10 16 rfl rfl
              have VB := Lib.hid vB
              clear vB zB
              clear hZ2
              have d8 := HG0.out.d8
              have f8 := HG0.out.blk.free 8
              go_upto_region 15 with (first | (go_at_call 44; with_reducible refine (qA _).mono ?_; rintro e w5 ⟨rfl, rfl⟩) | (go_at_call 10; with_reducible refine (HA.out _).mono ?_; rintro e w5 ⟨rfl, rfl⟩))
              have G1 := HG0.out.set { hd0 l with seq := nA } 8 (.int .u64 nA) rfl rfl rfl
              generalize World.setCell _ ⟨H, 8, none⟩ _ = W1 at *
              clear c6 c7 d8 f8
              have c6 := G1.c6; have c7 := G1.c7
              have HG1 := Lib.hid G1
              clear G1
              have d8 := HG1.out.d8
              have f8 := HG1.out.blk.free 8
              go_upto_region 18 with (first | (go_at_call 44; with_reducible refine (qB _).mono ?_; rintro e w5 ⟨rfl, rfl⟩) | (go_at_call 10; with_reducible refine (HA.out _).mono ?_; rintro e w5 ⟨rfl, rfl⟩))
              have G2 := HG1.out.set { hd0 l with seq := nB } 8 (.int .u64 nB) rfl rfl rfl
              generalize World.setCell _ ⟨H, 8, none⟩ _ = W2 at *
              clear c6 c7 d8 f8
              have c6 := G2.c6; have c7 := G2.c7
              have HG2 := Lib.hid G2
              clear G2
              have hZB := HG2.out.zero; have hBL := HG2.out.bel; have hBK := HG2.out.blk; have hlt := HG2.out.lt
              have hGE : getHd l = { hd0 l with seq := nB } := by
                unfold getHd hd1 Hd.withExtras numsLen seqOf ackOf
                simp [HT6.out, HT7.out, hA, hSv, hCd, VB.out, seqPad, numLen, ackPad, List.drop_drop]
              have HGE := Lib.hid hGE; have HBK := Lib.hid hBK; have HZB := Lib.hid hZB; have HBL := Lib.hid hBL; have HLT := Lib.hid hlt
              clear hGE hBK hZB hBL hlt hA hSv hCd
              go_wp2_with (first | (go_at_call 44; with_reducible refine (qA _).mono ?_; rintro e w5 ⟨rfl, rfl⟩) | (go_at_call 10; with_reducible refine (HA.out _).mono ?_; rintro e w5 ⟨rfl, rfl⟩) | (refine load_blk rfl _ rfl H rfl _ HBK.out ?_) | (refine store_blk rfl _ _ rfl w.heap.size Hd.zero _ rfl rfl HZB.out ?_; intro W9 hc9 hg9))
              refine bodyPost_ret (results_pair Tryz.results14 _ _ w.heap.size _ rfl (load_hd hc9)) rfl ⟨fun h0 => absurd HFT.out h0, fun _ => ⟨by rw [HGE.out]; rfl, HBL.out.grown hg9 HBL.out.size (fun k hk => by cases hk; exact Nat.le_refl _)⟩⟩
            · cases hX
              have hZ2 : 28 ≤ l.length := by have := HS.out; omega
              rw [hA] at HA
              clear hSz
              obtain ⟨bA, nA, sA, qA, vA, zA⟩ := HSL.out 9 12 (by decide) (by omega) (by decide) 9 12 rfl rfl
              have VA := Lib.hid vA
              clear vA zA
              obtain ⟨bB, nB, sB, qB, vB, zB⟩ := HSL.out 10 16 (by decide) (by omega) (by decide) 10 16 rfl rfl
              have VB := Lib.hid vB
              clear vB zB
              obtain ⟨bC, nC, sC, qC, vC, zC⟩ := HSL.out 18 24 (by decide) (by omega) (by decide) 18 24 rfl rfl
              have VC := Lib.hid vC
              clear vC zC
              obtain ⟨nE, qE, vE, zE⟩ := HIX.out 24 (by omega) 24 rfl
              have VE := Lib.hid vE
              clear vE
              obtain ⟨nF, qF, vF, zF⟩ := HIX.out 25 (by omega) 25 rfl
              have VF := Lib.hid vF
              clear vF
              obtain ⟨nG, qG, vG, zG⟩ := HIX.out 26 (by omega) 26 rfl
              have VG := Lib.hid vG
              clear vG
              obtain ⟨nI, qI, vI, zI⟩ := HIX.out 27 (by omega) 27 rfl
              have VI := Lib.hid vI
              clear vI
              clear hZ2
              have d8 := HG0.out.d8
              have f8 := HG0.out.blk.free 8
              go_upto_region 15 with (first | (go_at_call 44; with_reducible refine (qA _).mono ?_; rintro e w5 ⟨rfl, rfl⟩) | (go_at_call 10; with_reducible refine (HA.out _).mono ?_; rintro e w5 ⟨rfl, rfl⟩))
              have G1 := HG0.out.set { hd0 l with seq := nA } 8 (.int .u64 nA) rfl rfl rfl
              generalize World.setCell _ ⟨H, 8, none⟩ _ = W1 at *
              clear c6 c7 d8 f8
              have c6 := G1.c6; have c7 := G1.c7
              have HG1 := Lib.hid G1
              clear G1
              have d8 := HG1.out.d8
              have f8 := HG1.out.blk.free 8
              go_upto_region 18 with (first | (go_at_call 44; with_reducible refine (qB _).mono ?_; rintro e w5 ⟨rfl, rfl⟩) | (go_at_call 10; with_reducible refine (HA.out _).mono ?_; rintro e w5 ⟨rfl, rfl⟩))
              have G2 := HG1.out.set { hd0 l with seq := nB } 8 (.int .u64 nB) rfl rfl rfl
              generalize World.setCell _ ⟨H, 8, none⟩ _ = W2 at *
              clear c6 c7 d8 f8
              have c6 := G2.c6; have c7 := G2.c7
              have HG2 := Lib.hid G2
              clear G2
              have d9 := HG2.out.d9
              have f9 := HG2.out.blk.free 9
              go_upto_region 24 with (first | (go_at_call 44; with_reducible refine (qC _).mono ?_; rintro e w5 ⟨rfl, rfl⟩) | (go_at_call 10; with_reducible refine (HA.out _).mono ?_; rintro e w5 ⟨rfl, rfl⟩))
              have G3 := HG2.out.set { hd0 l with seq := nB, ack := nC } 9 (.int .u64 nC) rfl rfl rfl
              generalize World.setCell _ ⟨H, 9, none⟩ _ = W3 at *
              clear c6 c7 d9 f9
              have c6 := G3.c6; have c7 := G3.c7
              have HG3 := Lib.hid G3
              clear G3
              have d11 := HG3.out.d11
              have f11 := HG3.out.blk.free 11
              go_upto_region 30 with (first | (go_at_call 44; with_reducible refine (qE _).mono ?_; rintro e w5 ⟨rfl, rfl⟩) | (go_at_call 10; with_reducible refine (HA.out _).mono ?_; rintro e w5 ⟨rfl, rfl⟩))
              have G4 := HG3.out.set { hd0 l with seq := nB, ack := nC, code := nE } 11 (.int .i64 nE) rfl rfl rfl
              generalize World.setCell _ ⟨H, 11, none⟩ _ = W4 at *
              clear c6 c7 d11 f11
              have c6 := G4.c6; have c7 := G4.c7
              have HG4 := Lib.hid G4
              clear G4
              refine Rg.regionV (by kernel_rfl) [135, 136, 137, 138, 139, 140, 141, 142, 143, 144, 145, 146, 147, 148, 149] (SI 14 [.string s, .int .i64 ((24 : Nat) : Int), .int .i64 ((24 + 1 : Nat) : Int), .int .u8 (nF : Nat), .string s, .int .i64 ((24 : Nat) : Int), .int .i64 ((24 + 2 : Nat) : Int), .int .u8 (nG : Nat), .string s, .int .i64 ((24 : Nat) : Int), .int .i64 ((24 + 3 : Nat) : Int), .int .u8 (nI : Nat), .agg #[.int .u8 (nF : Nat), .int .u8 (nG : Nat), .int .u8 (nI : Nat)], .pointer (some ⟨H, 12, none⟩)] { hd0 l with seq := nB, ack := nC, code := nE } { hd0 l with seq := nB, ack := nC, code := nE, i0 := nF, i1 := nG, i2 := nI } H t true w) (by kernel_rfl) (fun V => ⟨fun _ _ h => (by cases h), HG4.out.drew⟩) ⟨?_, ?_, ?_, ?_, ?_, ?_, ?_, ?_, ?_, ?_, ?_, ?_, ?_, ?_, ?_, trivial⟩ ?_
              · intro L V a W hli hdeps hsl hVe hI K1 hk
                have e0 : a.eval (.tmp 0) = .string s := (hsl 0 (by decide)).trans rfl
                exact Rg.valJ hk (ex_move _ W _ _ _ rfl e0) (fun V' hV hv => hI.quiet 0 (by decide) V' hV (hv rfl))
              · intro L V a W hli hdeps hsl hVe hI K1 hk
                have e0 : a.eval (.tmp 6) = .int .i64 ((24 : Nat) : Int) := (hsl 6 (by decide)).trans rfl
                exact Rg.valJ hk (ex_move _ W _ _ _ rfl e0) (fun V' hV hv => hI.quiet 1 (by decide) V' hV (hv rfl))
              · intro L V a W hli hdeps hsl hVe hI K1 hk
                have e0 : a.eval (.tmp 136) = .int .i64 ((24 : Nat) : Int) := (hVe 1).symm.trans (hI.vals 1 (by decide) (hdeps ⟨1, .data⟩ (by simp) rfl))
                exact Rg.valJ hk (ex_addI _ W _ _ _ 24 1 (by decide) rfl e0 rfl) (fun V' hV hv => hI.quiet 2 (by decide) V' hV (hv rfl))
              · intro L V a W hli hdeps hsl hVe hI K1 hk
                have e0 : a.eval (.tmp 135) = .string s := (hVe 0).symm.trans (hI.vals 0 (by decide) (hdeps ⟨0, .data⟩ (by simp) rfl))
                have e1 : a.eval (.tmp 137) = .int .i64 ((24 + 1 : Nat) : Int) := (hVe 2).symm.trans (hI.vals 2 (by decide) (hdeps ⟨2, .data⟩ (by simp) rfl))
                exact Rg.valJ hk (ex_indexT _ W _ _ _ 25 s nF rfl e0 e1 qF) (fun V' hV hv => hI.quiet 3 (by decide) V' hV (hv rfl))
              · intro L V a W hli hdeps hsl hVe hI K1 hk
                have e0 : a.eval (.tmp 0) = .string s := (hsl 0 (by decide)).trans rfl
                exact Rg.valJ hk (ex_move _ W _ _ _ rfl e0) (fun V' hV hv => hI.quiet 4 (by decide) V' hV (hv rfl))
              · intro L V a W hli hdeps hsl hVe hI K1 hk
                have e0 : a.eval (.tmp 6) = .int .i64 ((24 : Nat) : Int) := (hsl 6 (by decide)).trans rfl
                exact Rg.valJ hk (ex_move _ W _ _ _ rfl e0) (fun V' hV hv => hI.quiet 5 (by decide) V' hV (hv rfl))
              · intro L V a W hli hdeps hsl hVe hI K1 hk
                have e0 : a.eval (.tmp 140) = .int .i64 ((24 : Nat) : Int) := (hVe 5).symm.trans (hI.vals 5 (by decide) (hdeps ⟨5, .data⟩ (by simp) rfl))
                exact Rg.valJ hk (ex_addI _ W _ _ _ 24 2 (by decide) rfl e0 rfl) (fun V' hV hv => hI.quiet 6 (by decide) V' hV (hv rfl))
              · intro L V a W hli hdeps hsl hVe hI K1 hk
                have e0 : a.eval (.tmp 139) = .string s := (hVe 4).symm.trans (hI.vals 4 (by decide) (hdeps ⟨4, .data⟩ (by simp) rfl))
                have e1 : a.eval (.tmp 141) = .int .i64 ((24 + 2 : Nat) : Int) := (hVe 6).symm.trans (hI.vals 6 (by decide) (hdeps ⟨6, .data⟩ (by simp) rfl))
                exact Rg.valJ hk (ex_indexT _ W _ _ _ 26 s nG rfl e0 e1 qG) (fun V' hV hv => hI.quiet 7 (by decide) V' hV (hv rfl))
              · intro L V a W hli hdeps hsl hVe hI K1 hk
                have e0 : a.eval (.tmp 0) = .string s := (hsl 0 (by decide)).trans rfl
                exact Rg.valJ hk (ex_move _ W _ _ _ rfl e0) (fun V' hV hv => hI.quiet 8 (by decide) V' hV (hv rfl))
              · intro L V a W hli hdeps hsl hVe hI K1 hk
                have e0 : a.eval (.tmp 6) = .int .i64 ((24 : Nat) : Int) := (hsl 6 (by decide)).trans rfl
                exact Rg.valJ hk (ex_move _ W _ _ _ rfl e0) (fun V' hV hv => hI.quiet 9 (by decide) V' hV (hv rfl))
              · intro L V a W hli hdeps hsl hVe hI K1 hk
                have e0 : a.eval (.tmp 144) = .int .i64 ((24 : Nat) : Int) := (hVe 9).symm.trans (hI.vals 9 (by decide) (hdeps ⟨9, .data⟩ (by simp) rfl))
                exact Rg.valJ hk (ex_addI _ W _ _ _ 24 3 (by decide) rfl e0 rfl) (fun V' hV hv => hI.quiet 10 (by decide) V' hV (hv rfl))
              · intro L V a W hli hdeps hsl hVe hI K1 hk
                have e0 : a.eval (.tmp 143) = .string s := (hVe 8).symm.trans (hI.vals 8 (by decide) (hdeps ⟨8, .data⟩ (by simp) rfl))
                have e1 : a.eval (.tmp 145) = .int .i64 ((24 + 3 : Nat) : Int) := (hVe 10).symm.trans (hI.vals 10 (by decide) (hdeps ⟨10, .data⟩ (by simp) rfl))
                exact Rg.valJ hk (ex_indexT _ W _ _ _ 27 s nI rfl e0 e1 qI) (fun V' hV hv => hI.quiet 11 (by decide) V' hV (hv rfl))
              · intro L V a W hli hdeps hsl hVe hI K1 hk
                have e0 : a.eval (.tmp 138) = .int .u8 (nF : Nat) := (hVe 3).symm.trans (hI.vals 3 (by decide) (hdeps ⟨3, .data⟩ (by simp) rfl))
                have e1 : a.eval (.tmp 142) = .int .u8 (nG : Nat) := (hVe 7).symm.trans (hI.vals 7 (by decide) (hdeps ⟨7, .data⟩ (by simp) rfl))
                have e2 : a.eval (.tmp 146) = .int .u8 (nI : Nat) := (hVe 11).symm.trans (hI.vals 11 (by decide) (hdeps ⟨11, .data⟩ (by simp) rfl))
                exact Rg.valJ hk (ex_build3 _ W _ _ _ _ nF nG nI rfl e0 e1 e2) (fun V' hV hv => hI.quiet 12 (by decide) V' hV (hv rfl))
              · intro L V a W hli hdeps hsl hVe hI K1 hk
                have e0 : a.eval (.tmp 4) = .pointer (some ⟨H, 0, none⟩) := (hsl 4 (by decide)).trans rfl
                exact Rg.valJ hk (ex_field4 _ W _ _ H rfl e0) (fun V' hV hv => hI.quiet 13 (by decide) V' hV (hv rfl))
              · intro L V a W hli hdeps hsl hVe hI K1 hk
                have e0 : a.eval (.tmp 148) = .pointer (some ⟨H, 12, none⟩) := (hVe 13).symm.trans (hI.vals 13 (by decide) (hdeps ⟨13, .data⟩ (by simp) rfl))
                have e1 : a.eval (.tmp 147) = .agg #[.int .u8 (nF : Nat), .int .u8 (nG : Nat), .int .u8 (nI : Nat)] := (hVe 12).symm.trans (hI.vals 12 (by decide) (hdeps ⟨12, .data⟩ (by simp) rfl))
                have hst := hI.st
                rw [hli, if_neg (by decide)] at hst
                exact store_infoJ hk rfl H _ nF nG nI e0 e1 hst.blk (fun V' hV hv => hI.store (hst.info nF nG nI) V' hV)
              · intro W5 f L V hL hVf hI
                have hst := hI.st
                rw [hL 14 (by decide), if_pos rfl] at hst
                clear hI hL hVf c6 c7
                simp only [Rg.puts, List.foldl_cons, List.foldl_nil, Act.put, List.setIfInBounds_toArray, List.set_cons_succ, List.set_cons_zero]
                have c6 := hst.c6; have c7 := hst.c7
                have HG9 := Lib.hid hst
                clear hst
                have hZB := HG9.out.zero; have hBL := HG9.out.bel; have hBK := HG9.out.blk; have hlt := HG9.out.lt
                have hGE : getHd l = { hd0 l with seq := nB, ack := nC, code := nE, i0 := nF, i1 := nG, i2 := nI } := by
                  unfold getHd hd1 Hd.withExtras numsLen seqOf ackOf
                  simp [HT6.out, HT7.out, hA, hSv, hCd, VB.out, VC.out, VE.out, VF.out, VG.out, VI.out, seqPad, numLen, ackPad, List.drop_drop]
                have HGE := Lib.hid hGE; have HBK := Lib.hid hBK; have HZB := Lib.hid hZB; have HBL := Lib.hid hBL; have HLT := Lib.hid hlt
                clear hGE hBK hZB hBL hlt hA hSv hCd
                go_wp2_with (first | (go_at_call 44; with_reducible refine (qA _).mono ?_; rintro e w5 ⟨rfl, rfl⟩) | (go_at_call 10; with_reducible refine (HA.out _).mono ?_; rintro e w5 ⟨rfl, rfl⟩) | (refine load_blk rfl _ rfl H rfl _ HBK.out ?_) | (refine store_blk rfl _ _ rfl w.heap.size Hd.zero _ rfl rfl HZB.out ?_; intro W9 hc9 hg9))
                refine bodyPost_ret (results_pair Tryz.results14 _ _ w.heap.size _ rfl (load_hd hc9)) rfl ⟨fun h0 => absurd HFT.out h0, fun _ => ⟨by rw [HGE.out]; rfl, HBL.out.grown hg9 HBL.out.size (fun k hk => by cases hk; exact Nat.le_refl _)⟩⟩
            · cases hX
              have hZ2 : 24 ≤ l.length := by have := HS.out; omega
              rw [hA] at HA
              clear hSz
              obtain ⟨bA, nA, sA, qA, vA, zA⟩ := HSL.out 9 12 (by decide) (by omega) (by decide) 9 12 rfl rfl
              have VA := Lib.hid vA
              clear vA zA
              obtain ⟨bB, nB, sB, qB, vB, zB⟩ := HSL.out 10 16 (by decide) (by omega) (by decide) 10 16 rfl rfl
              have VB := Lib.hid vB
              clear vB zB
              obtain ⟨bC, nC, sC, qC, vC, zC⟩ := HSL.out 18 24 (by decide) (by omega) (by decide) 18 24 rfl rfl
              have VC := Lib.hid vC
              clear vC zC
              clear hZ2
              have d8 := HG0.out.d8
              have f8 := HG0.out.blk.free 8
              go_upto_region 15 with (first | (go_at_call 44; with_reducible refine (qA _).mono ?_; rintro e w5 ⟨rfl, rfl⟩) | (go_at_call 10; with_reducible refine (HA.out _).mono ?_; rintro e w5 ⟨rfl, rfl⟩))
              have G1 := HG0.out.set { hd0 l with seq := nA } 8 (.int .u64 nA) rfl rfl rfl
              generalize World.setCell _ ⟨H, 8, none⟩ _ = W1 at *
              clear c6 c7 d8 f8
              have c6 := G1.c6; have c7 := G1.c7
              have HG1 := Lib.hid G1
              clear G1
              have d8 := HG1.out.d8
              have f8 := HG1.out.blk.free 8
              go_upto_region 18 with (first | (go_at_call 44; with_reducible refine (qB _).mono ?_; rintro e w5 ⟨rfl, rfl⟩) | (go_at_call 10; with_reducible refine (HA.out _).mono ?_; rintro e w5 ⟨rfl, rfl⟩))
              have G2 := HG1.out.set { hd0 l with seq := nB } 8 (.int .u64 nB) rfl rfl rfl
              generalize World.setCell _ ⟨H, 8, none⟩ _ = W2 at *
              clear c6 c7 d8 f8
              have c6 := G2.c6; have c7 := G2.c7
              have HG2 := Lib.hid G2
              clear G2
              have d9 := HG2.out.d9
              have f9 := HG2.out.blk.free 9
              go_upto_region 24 with (first | (go_at_call 44; with_reducible refine (qC _).mono ?_; rintro e w5 ⟨rfl, rfl⟩) | (go_at_call 10; with_reducible refine (HA.out _).mono ?_; rintro e w5 ⟨rfl, rfl⟩))
              have G3 := HG2.out.set { hd0 l with seq := nB, ack := nC } 9 (.int .u64 nC) rfl rfl rfl
              generalize World.setCell _ ⟨H, 9, none⟩ _ = W3 at *
              clear c6 c7 d9 f9
              have c6 := G3.c6; have c7 := G3.c7
              have HG3 := Lib.hid G3
              clear G3
              have hZB := HG3.out.zero; have hBL := HG3.out.bel; have hBK := HG3.out.blk; have hlt := HG3.out.lt
              have hGE : getHd l = { hd0 l with seq := nB, ack := nC } := by
                unfold getHd hd1 Hd.withExtras numsLen seqOf ackOf
                simp [HT6.out, HT7.out, hA, hSv, hCd, VB.out, VC.out, seqPad, numLen, ackPad, List.drop_drop]
              have HGE := Lib.hid hGE; have HBK := Lib.hid hBK; have HZB := Lib.hid hZB; have HBL := Lib.hid hBL; have HLT := Lib.hid hlt
              clear hGE hBK hZB hBL hlt hA hSv hCd
              go_wp2_with (first | (go_at_call 44; with_reducible refine (qA _).mono ?_; rintro e w5 ⟨rfl, rfl⟩) | (go_at_call 10; with_reducible refine (HA.out _).mono ?_; rintro e w5 ⟨rfl, rfl⟩) | (refine load_blk rfl _ rfl H rfl _ HBK.out ?_) | (refine store_blk rfl _ _ rfl w.heap.size Hd.zero _ rfl rfl HZB.out ?_; intro W9 hc9 hg9))
              refine bodyPost_ret (results_pair Tryz.results14 _ _ w.heap.size _ rfl (load_hd hc9)) rfl ⟨fun h0 => absurd HFT.out h0, fun _ => ⟨by rw [HGE.out]; rfl, HBL.out.grown hg9 HBL.out.size (fun k hk => by cases hk; exact Nat.le_refl _)⟩⟩
end Go.Proofs.YtcdhllajdpalaaaGreatDoor
