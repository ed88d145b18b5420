/-
  The law PktTypes, walked. (Its text is printed by tools/gentypes.py.)
-/
import Derived.Test.YtmekkmbldnbaiaaGreatDoorLawHead2
import Derived.Test.YtmekkmbldnbaiaaGreatDoorPktMath
import Derived.Test.YtmekkmbldnbaiaaGreatDoorBegunM
import Derived.Deep.DeepCutAuto
import Derived.Deep.QuietTactic
import Derived.BigQuiet
namespace Go.Proofs.YtmekkmbldnbaiaaGreatDoor
open Go.ChangeShapes Go.WideShapes Go.ChangeAt Go.RowKit
set_option linter.unusedVariables false

/-- A head of which its type decides what it has. -/
def tyHd (T : Int) (x : Bool) (S A0 sv c : Nat) : Hd :=
  ⟨7, 9, 0, 0, 0, 0, T, x, S, if hasAckB T = true then A0 else 0, if serviceB T = true then sv else 0, if codeB T = true then (c : Int) else 0, if codeB T = true then c else 0, if codeB T = true then 1 else 0, if codeB T = true then 2 else 0⟩
theorem tyHd_ok (T : Int) (x : Bool) (S A0 sv c : Nat) (hS : S < mostN x) (hA : A0 < mostN x) (hv : sv < 4294967296) (hc : c < 256) : (tyHd T x S A0 sv c).ok := by
  have hm : mostN x ≤ 281474976710656 := by cases x <;> decide
  refine ⟨?_, ?_, ?_, ?_, ?_, ?_⟩
  · show S < _; omega
  · show (if hasAckB T = true then A0 else 0) < _; split <;> omega
  · show (if serviceB T = true then sv else 0) < _; split <;> omega
  · show (if codeB T = true then c else 0) < _; split <;> omega
  · show (if codeB T = true then 1 else 0) < _; split <;> omega
  · show (if codeB T = true then 2 else 0) < _; split <;> omega
theorem tyHd_may (T : Int) (x : Bool) (S A0 sv c : Nat) (h0 : 0 ≤ T) (h9 : T ≤ 9) (hx : x = true ∨ T = 2 ∨ T = 3 ∨ T = 4) (hS : S < mostN x) (hA : A0 < mostN x) (hc : c < 256) : (tyHd T x S A0 sv c).bare.mayB = true := by
  have hz : sizeN T x ≠ 0 := by
    rcases type_cases T with h' | h' | h' | h' | h' | h' | h' | h' | h' | h' | h' | h'
    · omega
    · omega
    all_goals (subst h'; cases x <;> first | decide | (simp at hx))
  have hl := sizeN_le T x
  rw [mayB_iff]
  show sizeN T x ≠ 0 ∧ (0 ≤ (7 : Int) ∧ (7 : Int) ≤ 65535) ∧ (0 ≤ (9 : Int) ∧ (9 : Int) ≤ 65535) ∧ (((sizeN T x : Nat) : Int) / 4 ≤ ((sizeN T x / 4 : Nat) : Int) ∧ ((sizeN T x / 4 : Nat) : Int) ≤ 255) ∧ (0 ≤ (0 : Int) ∧ (0 : Int) ≤ 15) ∧ (0 ≤ (0 : Int) ∧ (0 : Int) ≤ 15) ∧ (0 ≤ (0 : Int) ∧ (0 : Int) ≤ 65535) ∧
    ((hasAckB T = true ∨ (if hasAckB T = true then A0 else 0) = 0) ∧ S < mostN x ∧ (if hasAckB T = true then A0 else 0) < mostN x) ∧ ((serviceB T = true ∨ (if serviceB T = true then sv else 0) = 0) ∧ (codeB T = true ∧ 0 ≤ (if codeB T = true then (c : Int) else 0) ∧ (if codeB T = true then (c : Int) else 0) ≤ 255 ∨ codeB T = false ∧ (if codeB T = true then (c : Int) else 0) = 0 ∧ (if codeB T = true then c else 0) = 0 ∧ (if codeB T = true then 1 else 0) = 0 ∧ (if codeB T = true then 2 else 0) = 0))
  refine ⟨hz, by omega, by omega, by omega, by omega, by omega, by omega, ⟨?_, hS, ?_⟩, ?_, ?_⟩
  · cases hasAckB T <;> simp
  · split <;> omega
  · cases serviceB T <;> simp
  · cases codeB T <;> simp; omega
theorem putOpts_nil : M.putOpts [] = [] := rfl
theorem tyHd_err (T : Int) (x : Bool) (S A0 sv c : Nat) (d : List UInt8) (h0 : 0 ≤ T) (h9 : T ≤ 9) (hx : x = true ∨ T = 2 ∨ T = 3 ∨ T = 4) (hS : S < mostN x) (hA : A0 < mostN x) (hc : c < 256) (hd : d.length ≤ 50) : putErr (tyHd T x S A0 sv c) [] d = 0 := by
  have hl := sizeN_le T x
  have e : offN (tyHd T x S A0 sv c) [] = sizeN T x / 4 := by unfold offN; rw [putOpts_nil]; rfl
  unfold putErr
  rw [if_neg (by rw [tyHd_may T x S A0 sv c h0 h9 hx hS hA hc]; simp), if_neg (by simp), e, if_neg (by unfold largeB; rw [decide_eq_true_eq]; omega), if_neg]
  rw [show (tyHd T x S A0 sv c).cs = 0 from rfl, (cov_all (t := ((4 * (sizeN T x / 4) + d.length : Nat) : Int)) (o := ((4 * (sizeN T x / 4) : Nat) : Int)) (by omega)).2]
  simp
/-- What is written of it is read. -/
theorem tyHd_round (T : Int) (x : Bool) (S A0 sv c : Nat) (d : List UInt8) (h0 : 0 ≤ T) (h9 : T ≤ 9) (hx : x = true ∨ T = 2 ∨ T = 3 ∨ T = 4) (hS : S < mostN x) (hA : A0 < mostN x) (hv : sv < 4294967296) (hc : c < 256) (hd : d.length ≤ 50) :
    ∃ l G, putText (tyHd T x S A0 sv c) [] d = l ∧ l.length ≤ 1073741824 ∧ getErr l = 0 ∧ getOs l = some [] ∧ getHd l = G ∧ l.drop (getOff l) = d ∧ G.off * 4 = (sizeN T x : Nat) ∧ 0 ≤ G.off ∧ G.off ≤ 7 ∧ ({ G with off := 0, sum := 0 } : Hd) = tyHd T x S A0 sv c := by
  have he := tyHd_err T x S A0 sv c d h0 h9 hx hS hA hc hd
  have R := pk_round (tyHd T x S A0 sv c) [] d (tyHd_ok T x S A0 sv c hS hA hv hc) he
  have hos : getOs (pkBytes (tyHd T x S A0 sv c) [] d) = some [] := by
    rw [R.gos, get_put [] rfl]; rfl
  have hl := sizeN_le T x
  have h4 := sizeN_four T x
  have e : offN (tyHd T x S A0 sv c) [] = sizeN T x / 4 := by unfold offN; rw [putOpts_nil]; rfl
  refine ⟨_, _, rfl, ?_, ?_, ?_, rfl, ?_, ?_, ?_, ?_, ?_⟩
  all_goals (unfold putText; rw [if_pos he])
  · have := R.len; have := R.small; omega
  · rw [R.err, hos, if_neg (by simp)]
  · exact hos
  · exact R.gd
  · rw [R.hd]; show ((offN (tyHd T x S A0 sv c) [] : Nat) : Int) * 4 = _; rw [e]; omega
  · rw [R.hd]; show (0 : Int) ≤ ((offN (tyHd T x S A0 sv c) [] : Nat) : Int); omega
  · rw [R.hd]; show ((offN (tyHd T x S A0 sv c) [] : Nat) : Int) ≤ 7; rw [e]; omega
  · rw [R.hd]; rfl
/-- A packet of a head and data, built. -/
theorem built_pk (h : Hd) (s : ByteArray) (w : World) : (Instr.build 49 #[(0, h.val), (2, .string s)]).run Tryz.prog w = .ok (Pv h (.slice none 0 0) s) w :=
  run_build w _ _ _ (by kernel_rfl)
set_option maxRecDepth 100000 in
theorem build_pk {ops : Array Oper} {rest : List Oper} {o : Oper} {a : Act} {w : World} {Q : Exit → Act → World → Prop} (hgd : o.guard = none) (x y : Operand) (ho : o.op = .build 49 #[(0, x), (2, y)])
    (h : Hd) (s : ByteArray) (hx : a.eval x = h.val) (hy : a.eval y = .string s)
    (hh : wpList Tryz.prog ops Q rest (a.put o.dst (Pv h (.slice none 0 0) s)) w) : wpList Tryz.prog ops Q (o :: rest) a w :=
  wpList_plain hgd fun _ hK => by
    have hb := built_pk h s w
    rw [← hx, ← hy] at hb
    unfold Oper.wp execOp
    simp only [ho, List.map_toArray, List.map_cons, List.map_nil, Sem.run_bind, hb, Result.andThen_ok]
    exact hK _ _ hh
theorem PkBlk.set {h : Hd} {v : Value} {s : ByteArray} {B : Nat} {w : World} (a : PkBlk h v s B w) (h2 : Hd) (i : Nat) (x : Value) (e : (pkCells h v s).setIfInBounds i x = pkCells h2 v s) : PkBlk h2 v s B (w.setCell ⟨B, i, none⟩ x) := by
  have a1 : w.heap[B]? = some (.cells (pkCells h v s) 49) := a
  have a2 := heap_setCell_same w B i _ _ x a1
  rw [e] at a2
  exact a2
theorem optsAt_nil (w : World) : OptsAt w (.slice none 0 0) [] := ⟨.inl ⟨rfl, none, 0, rfl⟩, by simp, by simp⟩

set_option maxHeartbeats 8000000 in
set_option maxRecDepth 100000 in
theorem types_sv0 (T : Int) (h0 : 0 ≤ T) (h9 : T ≤ 9) (hab : hasAckB T = false) (hsb : serviceB T = true) (hcb : codeB T = false) (t0 : (T == 0) = true) (t k1 : Int) (x : Bool) (hx : (x = true ∧ true = true) ∨ (x = false ∧ true = (T != 2 && T != 3 && T != 4))) (hX : true = true ∨ T = 2 ∨ T = 3 ∨ T = 4)
    (s a sv c : Nat) (sd : ByteArray) (hk1 : t.tmod 10 = k1) (b1 : -10 < k1) (b2 : k1 < 10) (hT : (k1 + 10).tmod 10 = T) (hs : s < 18446744073709551616) (ha : a < 18446744073709551616) (hv : sv < 4294967296) (hc : c < 256) (hsd : sd.size ≤ maxLen) (w : World) :
    Calls Tryz.prog 16 #[.int .i64 t, .bool x, .int .u64 s, .int .u64 a, .int .u32 sv, .int .u8 c, .string sd] w fun e w' => e = .returned (.bool true) ∧ Below w.heap.size w w' := by
  obtain ⟨S, hS⟩ : ∃ S : Nat, (s : Int) % 281474976710656 = (S : Int) := ⟨s % 281474976710656, by omega⟩
  obtain ⟨A0, hA0⟩ : ∃ S : Nat, (a : Int) % 281474976710656 = (S : Int) := ⟨a % 281474976710656, by omega⟩
  have hmo : mostN true = 281474976710656 := rfl
  obtain ⟨d, hd, hdl⟩ : ∃ l, sd.data.toList.take 50 = l ∧ l.length ≤ 50 := ⟨_, rfl, by simp; omega⟩
  have HTX := Lib.hid (fun w => textN_any sd 50 50 d rfl (by omega) hsd hd w)
  obtain ⟨l, G, el, hll, hge, hgo, hgh, hgd, go1, go2, go3, hG⟩ := tyHd_round T true S A0 sv c d h0 h9 hX (by omega) (by omega) hv hc hdl
  have hok := tyHd_ok T true S A0 sv c (by omega) (by omega) hv hc
  have herr := tyHd_err T true S A0 sv c d h0 h9 hX (by omega) (by omega) hc hdl
  obtain ⟨h2, hh2⟩ : ∃ h2, tyHd T true S A0 sv c = h2 := ⟨_, rfl⟩
  have eh2 : h2 = ⟨7, 9, 0, 0, 0, 0, T, true, S, 0, sv, 0, 0, 0, 0⟩ := by
    rw [← hh2]; unfold tyHd; rw [hab, hsb, hcb]; rfl
  rw [hh2] at el hok herr hG
  obtain ⟨sl, hsl⟩ : ∃ b, str l = b := ⟨_, rfl⟩
  obtain ⟨ds, hds⟩ : ∃ b, str d = b := ⟨_, rfl⟩
  have HPUT : Hid (∀ W, Calls Tryz.prog 39 #[Pv h2 (.slice none 0 0) ds] W fun e w' => e = .returned (.tuple #[.string sl, .int .i64 0]) ∧ Below W.heap.size W w') := Lib.hid (fun W => by
    have hp := pktPut_any h2 hok _ [] d W (optsAt_nil W) (by have : maxLen = 140737488355327 ∨ 50 ≤ maxLen := .inr (by unfold maxLen; omega); unfold maxLen; omega)
    unfold PutPk at hp
    rw [herr, el, hsl, hds] at hp
    exact hp)
  have HGET : Hid (∀ W, Calls Tryz.prog 41 #[.string sl] W fun e w' => ∃ p cap, e = .returned (.tuple #[Pv G (.slice p 0 cap) ds, .int .i64 0]) ∧ OptsOwn W.heap.size (.slice p 0 cap) [] W w') := Lib.hid (fun W => by
    have hp := pktGet_yes hll hge hgo W
    rw [hgh, hgd, hsl, hds] at hp
    exact hp)
  rw [hds] at HTX
  have HSZ : Hid (∀ w : World, Calls Tryz.prog 24 #[.int .i64 T, .bool true] w fun e w' => e = .returned (.int .i64 (G.off * 4)) ∧ w = w') := Lib.hid (fun w => by
    have h := size_any T true w
    rw [← go1] at h
    exact h)
  have HHA : Hid (∀ w : World, Calls Tryz.prog 22 #[.int .i64 T] w fun e w' => e = .returned (.bool false) ∧ w = w') := Lib.hid (fun w => by
    have h := hasAck_any T w
    rw [hab] at h
    exact h)
  have HTXT : Hid (∀ w : World, True) := Lib.hid (fun _ => trivial)
  have HG := Lib.hid hG
  have HE2 := Lib.hid eh2
  clear hmo hd hdl el hll hge hgo hgh hgd hok herr hh2 hsl hds go1 hG hab hsb hcb hX eh2 hsd HTXT
  go_enter Tryz.func16, Tryz.ntmps16
  go_upto_region 5 with (go_at_call 18; refine (begun_any _).mono ?_; rintro e w0 ⟨rfl, hb0⟩)
  have HB0 := Lib.hid hb0
  clear hb0
  go_cut [1] (fun u w' => w' = w0 ∧ u = .bool true)
  case first =>
    rcases hx with ⟨rfl, hx2⟩ | ⟨rfl, hx2⟩
    · clear hx2
      go_wp2
      go_meet
      exact ⟨rfl, rfl⟩
    · obtain ⟨q2, hq2⟩ : ∃ q, (T != 2) = q := ⟨_, rfl⟩
      obtain ⟨q3, hq3⟩ : ∃ q, (T != 3) = q := ⟨_, rfl⟩
      obtain ⟨q4, hq4⟩ : ∃ q, (T != 4) = q := ⟨_, rfl⟩
      rw [hq2, hq3, hq4] at hx2
      have HX2 := Lib.hid hx2
      clear hx2
      cases q2 <;> cases q3
      all_goals
        go_wp2
        go_meet
        exact ⟨rfl, by first | (rw [HX2.out]; done) | (rw [HX2.out]; rfl)⟩
  case rest =>
    obtain ⟨hw, hu⟩ := hcut
    subst hw
    subst hu
    go_upto_region 10 with (refine store_blk rfl _ _ rfl _ Hd.zero ⟨7, 9, 0, 0, 0, 0, T, true, S, 0, 0, 0, 0, 0, 0⟩ rfl rfl (hd_new _) ?_; intro W2 hc2 hg2)
    have hb2 : Below w.heap.size w W2 := (bel_trans HB0.out (bel_alloc _ _)).grown hg2 (bel_trans HB0.out (bel_alloc _ _)).size (fun k hk => by cases hk; exact HB0.out.size)
    have hCw : w.heap.size ≤ wc.heap.size := HB0.out.size
    obtain ⟨C, hC⟩ : ∃ C, C = wc.heap.size := ⟨_, rfl⟩
    rw [← hC] at hc2 hCw ⊢
    clear hg2 HB0 hC hS
    have HCX := Lib.hid hc2; have HBX := Lib.hid hb2
    clear hc2 hb2
    go_upto_region 12 with (go_at_call 22; refine (HHA.out _).mono ?_; rintro e w1 ⟨rfl, rfl⟩)
    have hc3 := HCX.out; have hb3 := HBX.out
    clear HCX HBX
    generalize W2 = W3 at *
    have HC3 := Lib.hid hc3
    have HB3 := Lib.hid hb3
    clear hc3 hb3 hA0
    have d10 := HC3.out.at_.2.2.2.2.2.2.2.2.2.2.1
    have f10 := HC3.out.free 10
    go_upto_region 18 with fail
    have hc4 := HC3.out.set ⟨7, 9, 0, 0, 0, 0, T, true, S, 0, sv, 0, 0, 0, 0⟩ 10 (.int .u32 (sv : Int)) rfl
    have hb4 := HB3.out.setCell (p := ⟨C, 10, none⟩) hCw (.int .u32 (sv : Int))
    clear d10 f10 HC3 HB3
    generalize W3.setCell ⟨C, 10, none⟩ (.int .u32 (sv : Int)) = W4 at *
    rw [← HE2.out] at hc4
    have HC4 := Lib.hid hc4; have HB4 := Lib.hid hb4
    clear hc4 hb4 HE2
    go_upto_region 19 with (go_at_call 19; refine (HTX.out _).mono ?_; rintro e w1 ⟨rfl, rfl⟩)
    clear HTX
    go_upto_region 20 with (first
      | (refine build_pk rfl _ _ rfl h2 ds rfl rfl ?_)
      | (refine load_blk rfl _ rfl C rfl _ HC4.out ?_)
      | (go_at_call 39; refine (HPUT.out _).mono ?_; rintro e w5 ⟨rfl, hb5⟩))
    have HC5 := Lib.hid (HC4.out.below hb5)
    have HB5 := Lib.hid (bel_trans HB4.out hb5)
    clear hb5 HC4 HB4 HPUT
    go_upto_region 21 with (first
      | (go_at_call 41; refine (HGET.out _).mono ?_; rintro e w6 ⟨p, cap, rfl, ho6⟩)
      | (refine store_pk rfl _ _ rfl _ Hd.zero G _ _ ds p 0 cap rfl rfl (pk_new_at _ _ rfl) ?_; intro W7 hp7 hg7))
    have hb6 := bel_trans HB5.out ho6.2.1
    have hc6 := HC5.out.below ho6.2.1
    have hb7 : Below w.heap.size w W7 := (bel_trans hb6 (bel_alloc _ _)).grown hg7 (bel_trans hb6 (bel_alloc _ _)).size (fun k hk => by cases hk; exact hb6.size)
    have hlt6 := hc6.lt
    have hc7 := (hc6.below (bel_alloc w6 _)).other hg7 (by simp; omega)
    have hCne : C ≠ w6.heap.size := by omega
    have hw6 : w.heap.size ≤ w6.heap.size := hb6.size
    obtain ⟨D, hD⟩ : ∃ D, D = w6.heap.size := ⟨_, rfl⟩
    rw [← hD] at hp7 hCne hw6 ⊢
    have c15 := hp7.cells.1
    have c16 := hp7.cells.2
    have c2 := hp7.range 2 (.int .i64 G.off) rfl
    rw [Nat.zero_add] at c2
    have HP7 := Lib.hid hp7; have HB7 := Lib.hid hb7; have HC7 := Lib.hid hc7
    clear hp7 hb7 hc7 hb6 hc6 hg7 ho6 HB5 HC5 HGET hlt6 hD
    have hne : (4 * G.off != G.off * 4) = false := by rw [bne_eq_false_iff_eq]; omega
    go_quiet ((go_at_call 24; exact Calls.quiet_of_same ((HSZ.out _).mono fun e w' hh => ⟨hh.1, hh.2.symm⟩)))
    have hp8 := HP7.out.below (bel_drewN W7 nq)
    have hc8 := HC7.out.below (bel_drewN W7 nq)
    have hb8 := bel_trans HB7.out (bel_drewN W7 nq)
    clear HP7 HC7 HB7 c15 c16 c2 hne
    generalize W7.drewN nq = W8 at *
    have e2 := hp8.range 2 (.int .i64 G.off) rfl
    have e5 := hp8.range 5 (.int .i64 G.sum) rfl
    rw [Nat.zero_add] at e2 e5
    have f2 := frozen_of_row W8 D 2 _ _ hp8
    have f5 := frozen_of_row W8 D 5 _ _ hp8
    have hp9 := (hp8.set { G with off := 0 } 2 (.int .i64 0) rfl).set { G with off := 0, sum := 0 } 5 (.int .i64 0) rfl
    have hc9 := (hc8.other (grown_set W8 D 2 (.int .i64 0)) (by simp; exact hCne)).other (grown_set _ D 5 (.int .i64 0)) (by simp; exact hCne)
    have hb9 := (hb8.setCell (p := ⟨D, 2, none⟩) hw6 (.int .i64 0)).setCell (p := ⟨D, 5, none⟩) hw6 (.int .i64 0)
    rw [HG.out] at hp9
    have HP9 := Lib.hid hp9; have HC9 := Lib.hid hc9; have HB9 := Lib.hid hb9
    clear hp8 hc8 hb8 hp9 hc9 hb9
    go_upto_region 24 with fail
    clear e2 e5 f2 f5
    generalize ((W8.setCell ⟨D, 2, none⟩ (.int .i64 0)).setCell ⟨D, 5, none⟩ (.int .i64 0)) = W9 at *
    have hez : ∀ w : World, (binOp .eql 26 h2.val h2.val).run Tryz.prog w = .ok (.bool true) w := fun w => by
      have := eqlHd h2 h2 w
      rw [(Hd.eqB_iff h2 h2).2 rfl] at this
      exact this
    have hgz := fun op x y w => guardHd2 op x y h2 h2 w
    go_wp2_with (first
      | (refine load_blk rfl _ rfl C rfl _ HC9.out ?_)
      | (refine load_mid rfl _ rfl D rfl _ _ _ HP9.out ?_))
    go_ret
    exact ⟨rfl, HB9.out⟩

set_option maxHeartbeats 8000000 in
set_option maxRecDepth 100000 in
theorem types_sv1 (T : Int) (h0 : 0 ≤ T) (h9 : T ≤ 9) (hab : hasAckB T = true) (hsb : serviceB T = true) (hcb : codeB T = false) (t0 : (T == 0) = false) (t1 : (T == 1) = true) (t k1 : Int) (x : Bool) (hx : (x = true ∧ true = true) ∨ (x = false ∧ true = (T != 2 && T != 3 && T != 4))) (hX : true = true ∨ T = 2 ∨ T = 3 ∨ T = 4)
    (s a sv c : Nat) (sd : ByteArray) (hk1 : t.tmod 10 = k1) (b1 : -10 < k1) (b2 : k1 < 10) (hT : (k1 + 10).tmod 10 = T) (hs : s < 18446744073709551616) (ha : a < 18446744073709551616) (hv : sv < 4294967296) (hc : c < 256) (hsd : sd.size ≤ maxLen) (w : World) :
    Calls Tryz.prog 16 #[.int .i64 t, .bool x, .int .u64 s, .int .u64 a, .int .u32 sv, .int .u8 c, .string sd] w fun e w' => e = .returned (.bool true) ∧ Below w.heap.size w w' := by
  obtain ⟨S, hS⟩ : ∃ S : Nat, (s : Int) % 281474976710656 = (S : Int) := ⟨s % 281474976710656, by omega⟩
  obtain ⟨A0, hA0⟩ : ∃ S : Nat, (a : Int) % 281474976710656 = (S : Int) := ⟨a % 281474976710656, by omega⟩
  have hmo : mostN true = 281474976710656 := rfl
  obtain ⟨d, hd, hdl⟩ : ∃ l, sd.data.toList.take 50 = l ∧ l.length ≤ 50 := ⟨_, rfl, by simp; omega⟩
  have HTX := Lib.hid (fun w => textN_any sd 50 50 d rfl (by omega) hsd hd w)
  obtain ⟨l, G, el, hll, hge, hgo, hgh, hgd, go1, go2, go3, hG⟩ := tyHd_round T true S A0 sv c d h0 h9 hX (by omega) (by omega) hv hc hdl
  have hok := tyHd_ok T true S A0 sv c (by omega) (by omega) hv hc
  have herr := tyHd_err T true S A0 sv c d h0 h9 hX (by omega) (by omega) hc hdl
  obtain ⟨h2, hh2⟩ : ∃ h2, tyHd T true S A0 sv c = h2 := ⟨_, rfl⟩
  have eh2 : h2 = ⟨7, 9, 0, 0, 0, 0, T, true, S, A0, sv, 0, 0, 0, 0⟩ := by
    rw [← hh2]; unfold tyHd; rw [hab, hsb, hcb]; rfl
  rw [hh2] at el hok herr hG
  obtain ⟨sl, hsl⟩ : ∃ b, str l = b := ⟨_, rfl⟩
  obtain ⟨ds, hds⟩ : ∃ b, str d = b := ⟨_, rfl⟩
  have HPUT : Hid (∀ W, Calls Tryz.prog 39 #[Pv h2 (.slice none 0 0) ds] W fun e w' => e = .returned (.tuple #[.string sl, .int .i64 0]) ∧ Below W.heap.size W w') := Lib.hid (fun W => by
    have hp := pktPut_any h2 hok _ [] d W (optsAt_nil W) (by have : maxLen = 140737488355327 ∨ 50 ≤ maxLen := .inr (by unfold maxLen; omega); unfold maxLen; omega)
    unfold PutPk at hp
    rw [herr, el, hsl, hds] at hp
    exact hp)
  have HGET : Hid (∀ W, Calls Tryz.prog 41 #[.string sl] W fun e w' => ∃ p cap, e = .returned (.tuple #[Pv G (.slice p 0 cap) ds, .int .i64 0]) ∧ OptsOwn W.heap.size (.slice p 0 cap) [] W w') := Lib.hid (fun W => by
    have hp := pktGet_yes hll hge hgo W
    rw [hgh, hgd, hsl, hds] at hp
    exact hp)
  rw [hds] at HTX
  have HSZ : Hid (∀ w : World, Calls Tryz.prog 24 #[.int .i64 T, .bool true] w fun e w' => e = .returned (.int .i64 (G.off * 4)) ∧ w = w') := Lib.hid (fun w => by
    have h := size_any T true w
    rw [← go1] at h
    exact h)
  have HHA : Hid (∀ w : World, Calls Tryz.prog 22 #[.int .i64 T] w fun e w' => e = .returned (.bool true) ∧ w = w') := Lib.hid (fun w => by
    have h := hasAck_any T w
    rw [hab] at h
    exact h)
  have HTXT : Hid (∀ w : World, True) := Lib.hid (fun _ => trivial)
  have HG := Lib.hid hG
  have HE2 := Lib.hid eh2
  clear hmo hd hdl el hll hge hgo hgh hgd hok herr hh2 hsl hds go1 hG hab hsb hcb hX eh2 hsd HTXT
  go_enter Tryz.func16, Tryz.ntmps16
  go_upto_region 5 with (go_at_call 18; refine (begun_any _).mono ?_; rintro e w0 ⟨rfl, hb0⟩)
  have HB0 := Lib.hid hb0
  clear hb0
  go_cut [1] (fun u w' => w' = w0 ∧ u = .bool true)
  case first =>
    rcases hx with ⟨rfl, hx2⟩ | ⟨rfl, hx2⟩
    · clear hx2
      go_wp2
      go_meet
      exact ⟨rfl, rfl⟩
    · obtain ⟨q2, hq2⟩ : ∃ q, (T != 2) = q := ⟨_, rfl⟩
      obtain ⟨q3, hq3⟩ : ∃ q, (T != 3) = q := ⟨_, rfl⟩
      obtain ⟨q4, hq4⟩ : ∃ q, (T != 4) = q := ⟨_, rfl⟩
      rw [hq2, hq3, hq4] at hx2
      have HX2 := Lib.hid hx2
      clear hx2
      cases q2 <;> cases q3
      all_goals
        go_wp2
        go_meet
        exact ⟨rfl, by first | (rw [HX2.out]; done) | (rw [HX2.out]; rfl)⟩
  case rest =>
    obtain ⟨hw, hu⟩ := hcut
    subst hw
    subst hu
    go_upto_region 10 with (refine store_blk rfl _ _ rfl _ Hd.zero ⟨7, 9, 0, 0, 0, 0, T, true, S, 0, 0, 0, 0, 0, 0⟩ rfl rfl (hd_new _) ?_; intro W2 hc2 hg2)
    have hb2 : Below w.heap.size w W2 := (bel_trans HB0.out (bel_alloc _ _)).grown hg2 (bel_trans HB0.out (bel_alloc _ _)).size (fun k hk => by cases hk; exact HB0.out.size)
    have hCw : w.heap.size ≤ wc.heap.size := HB0.out.size
    obtain ⟨C, hC⟩ : ∃ C, C = wc.heap.size := ⟨_, rfl⟩
    rw [← hC] at hc2 hCw ⊢
    clear hg2 HB0 hC hS
    have d9 : W2.cell? ⟨C, 9, none⟩ = some (.int .u64 0) := hc2.at_.2.2.2.2.2.2.2.2.2.1
    have f9 := hc2.free 9
    have hc3 := hc2.set ⟨7, 9, 0, 0, 0, 0, T, true, S, A0, 0, 0, 0, 0, 0⟩ 9 (.int .u64 (A0 : Int)) rfl
    have hb3 : Below w.heap.size w (W2.setCell ⟨C, 9, none⟩ (.int .u64 (A0 : Int))) := hb2.setCell (p := ⟨C, 9, none⟩) hCw _
    have HCX := Lib.hid hc3; have HBX := Lib.hid hb3
    clear hc2 hb2 hc3 hb3
    go_upto_region 12 with (go_at_call 22; refine (HHA.out _).mono ?_; rintro e w1 ⟨rfl, rfl⟩)
    have hc3 := HCX.out; have hb3 := HBX.out
    clear d9 f9 HCX HBX
    generalize W2.setCell ⟨C, 9, none⟩ (.int .u64 (A0 : Int)) = W3 at *
    have HC3 := Lib.hid hc3
    have HB3 := Lib.hid hb3
    clear hc3 hb3 hA0
    have d10 := HC3.out.at_.2.2.2.2.2.2.2.2.2.2.1
    have f10 := HC3.out.free 10
    go_upto_region 18 with fail
    have hc4 := HC3.out.set ⟨7, 9, 0, 0, 0, 0, T, true, S, A0, sv, 0, 0, 0, 0⟩ 10 (.int .u32 (sv : Int)) rfl
    have hb4 := HB3.out.setCell (p := ⟨C, 10, none⟩) hCw (.int .u32 (sv : Int))
    clear d10 f10 HC3 HB3
    generalize W3.setCell ⟨C, 10, none⟩ (.int .u32 (sv : Int)) = W4 at *
    rw [← HE2.out] at hc4
    have HC4 := Lib.hid hc4; have HB4 := Lib.hid hb4
    clear hc4 hb4 HE2
    go_upto_region 19 with (go_at_call 19; refine (HTX.out _).mono ?_; rintro e w1 ⟨rfl, rfl⟩)
    clear HTX
    go_upto_region 20 with (first
      | (refine build_pk rfl _ _ rfl h2 ds rfl rfl ?_)
      | (refine load_blk rfl _ rfl C rfl _ HC4.out ?_)
      | (go_at_call 39; refine (HPUT.out _).mono ?_; rintro e w5 ⟨rfl, hb5⟩))
    have HC5 := Lib.hid (HC4.out.below hb5)
    have HB5 := Lib.hid (bel_trans HB4.out hb5)
    clear hb5 HC4 HB4 HPUT
    go_upto_region 21 with (first
      | (go_at_call 41; refine (HGET.out _).mono ?_; rintro e w6 ⟨p, cap, rfl, ho6⟩)
      | (refine store_pk rfl _ _ rfl _ Hd.zero G _ _ ds p 0 cap rfl rfl (pk_new_at _ _ rfl) ?_; intro W7 hp7 hg7))
    have hb6 := bel_trans HB5.out ho6.2.1
    have hc6 := HC5.out.below ho6.2.1
    have hb7 : Below w.heap.size w W7 := (bel_trans hb6 (bel_alloc _ _)).grown hg7 (bel_trans hb6 (bel_alloc _ _)).size (fun k hk => by cases hk; exact hb6.size)
    have hlt6 := hc6.lt
    have hc7 := (hc6.below (bel_alloc w6 _)).other hg7 (by simp; omega)
    have hCne : C ≠ w6.heap.size := by omega
    have hw6 : w.heap.size ≤ w6.heap.size := hb6.size
    obtain ⟨D, hD⟩ : ∃ D, D = w6.heap.size := ⟨_, rfl⟩
    rw [← hD] at hp7 hCne hw6 ⊢
    have c15 := hp7.cells.1
    have c16 := hp7.cells.2
    have c2 := hp7.range 2 (.int .i64 G.off) rfl
    rw [Nat.zero_add] at c2
    have HP7 := Lib.hid hp7; have HB7 := Lib.hid hb7; have HC7 := Lib.hid hc7
    clear hp7 hb7 hc7 hb6 hc6 hg7 ho6 HB5 HC5 HGET hlt6 hD
    have hne : (4 * G.off != G.off * 4) = false := by rw [bne_eq_false_iff_eq]; omega
    go_quiet ((go_at_call 24; exact Calls.quiet_of_same ((HSZ.out _).mono fun e w' hh => ⟨hh.1, hh.2.symm⟩)))
    have hp8 := HP7.out.below (bel_drewN W7 nq)
    have hc8 := HC7.out.below (bel_drewN W7 nq)
    have hb8 := bel_trans HB7.out (bel_drewN W7 nq)
    clear HP7 HC7 HB7 c15 c16 c2 hne
    generalize W7.drewN nq = W8 at *
    have e2 := hp8.range 2 (.int .i64 G.off) rfl
    have e5 := hp8.range 5 (.int .i64 G.sum) rfl
    rw [Nat.zero_add] at e2 e5
    have f2 := frozen_of_row W8 D 2 _ _ hp8
    have f5 := frozen_of_row W8 D 5 _ _ hp8
    have hp9 := (hp8.set { G with off := 0 } 2 (.int .i64 0) rfl).set { G with off := 0, sum := 0 } 5 (.int .i64 0) rfl
    have hc9 := (hc8.other (grown_set W8 D 2 (.int .i64 0)) (by simp; exact hCne)).other (grown_set _ D 5 (.int .i64 0)) (by simp; exact hCne)
    have hb9 := (hb8.setCell (p := ⟨D, 2, none⟩) hw6 (.int .i64 0)).setCell (p := ⟨D, 5, none⟩) hw6 (.int .i64 0)
    rw [HG.out] at hp9
    have HP9 := Lib.hid hp9; have HC9 := Lib.hid hc9; have HB9 := Lib.hid hb9
    clear hp8 hc8 hb8 hp9 hc9 hb9
    go_upto_region 24 with fail
    clear e2 e5 f2 f5
    generalize ((W8.setCell ⟨D, 2, none⟩ (.int .i64 0)).setCell ⟨D, 5, none⟩ (.int .i64 0)) = W9 at *
    have hez : ∀ w : World, (binOp .eql 26 h2.val h2.val).run Tryz.prog w = .ok (.bool true) w := fun w => by
      have := eqlHd h2 h2 w
      rw [(Hd.eqB_iff h2 h2).2 rfl] at this
      exact this
    have hgz := fun op x y w => guardHd2 op x y h2 h2 w
    go_wp2_with (first
      | (refine load_blk rfl _ rfl C rfl _ HC9.out ?_)
      | (refine load_mid rfl _ rfl D rfl _ _ _ HP9.out ?_))
    go_ret
    exact ⟨rfl, HB9.out⟩

set_option maxHeartbeats 8000000 in
set_option maxRecDepth 100000 in
theorem types_code (T : Int) (h0 : 0 ≤ T) (h9 : T ≤ 9) (hab : hasAckB T = true) (hsb : serviceB T = false) (hcb : codeB T = true) (t0 : (T == 0) = false) (t1 : (T == 1) = false) (t7 : (T == 7) = true) (t k1 : Int) (x : Bool) (hx : (x = true ∧ true = true) ∨ (x = false ∧ true = (T != 2 && T != 3 && T != 4))) (hX : true = true ∨ T = 2 ∨ T = 3 ∨ T = 4)
    (s a sv c : Nat) (sd : ByteArray) (hk1 : t.tmod 10 = k1) (b1 : -10 < k1) (b2 : k1 < 10) (hT : (k1 + 10).tmod 10 = T) (hs : s < 18446744073709551616) (ha : a < 18446744073709551616) (hv : sv < 4294967296) (hc : c < 256) (hsd : sd.size ≤ maxLen) (w : World) :
    Calls Tryz.prog 16 #[.int .i64 t, .bool x, .int .u64 s, .int .u64 a, .int .u32 sv, .int .u8 c, .string sd] w fun e w' => e = .returned (.bool true) ∧ Below w.heap.size w w' := by
  obtain ⟨S, hS⟩ : ∃ S : Nat, (s : Int) % 281474976710656 = (S : Int) := ⟨s % 281474976710656, by omega⟩
  obtain ⟨A0, hA0⟩ : ∃ S : Nat, (a : Int) % 281474976710656 = (S : Int) := ⟨a % 281474976710656, by omega⟩
  have hmo : mostN true = 281474976710656 := rfl
  obtain ⟨d, hd, hdl⟩ : ∃ l, sd.data.toList.take 50 = l ∧ l.length ≤ 50 := ⟨_, rfl, by simp; omega⟩
  have HTX := Lib.hid (fun w => textN_any sd 50 50 d rfl (by omega) hsd hd w)
  obtain ⟨l, G, el, hll, hge, hgo, hgh, hgd, go1, go2, go3, hG⟩ := tyHd_round T true S A0 sv c d h0 h9 hX (by omega) (by omega) hv hc hdl
  have hok := tyHd_ok T true S A0 sv c (by omega) (by omega) hv hc
  have herr := tyHd_err T true S A0 sv c d h0 h9 hX (by omega) (by omega) hc hdl
  obtain ⟨h2, hh2⟩ : ∃ h2, tyHd T true S A0 sv c = h2 := ⟨_, rfl⟩
  have eh2 : h2 = ⟨7, 9, 0, 0, 0, 0, T, true, S, A0, 0, c, c, 1, 2⟩ := by
    rw [← hh2]; unfold tyHd; rw [hab, hsb, hcb]; rfl
  rw [hh2] at el hok herr hG
  obtain ⟨sl, hsl⟩ : ∃ b, str l = b := ⟨_, rfl⟩
  obtain ⟨ds, hds⟩ : ∃ b, str d = b := ⟨_, rfl⟩
  have HPUT : Hid (∀ W, Calls Tryz.prog 39 #[Pv h2 (.slice none 0 0) ds] W fun e w' => e = .returned (.tuple #[.string sl, .int .i64 0]) ∧ Below W.heap.size W w') := Lib.hid (fun W => by
    have hp := pktPut_any h2 hok _ [] d W (optsAt_nil W) (by have : maxLen = 140737488355327 ∨ 50 ≤ maxLen := .inr (by unfold maxLen; omega); unfold maxLen; omega)
    unfold PutPk at hp
    rw [herr, el, hsl, hds] at hp
    exact hp)
  have HGET : Hid (∀ W, Calls Tryz.prog 41 #[.string sl] W fun e w' => ∃ p cap, e = .returned (.tuple #[Pv G (.slice p 0 cap) ds, .int .i64 0]) ∧ OptsOwn W.heap.size (.slice p 0 cap) [] W w') := Lib.hid (fun W => by
    have hp := pktGet_yes hll hge hgo W
    rw [hgh, hgd, hsl, hds] at hp
    exact hp)
  rw [hds] at HTX
  have HSZ : Hid (∀ w : World, Calls Tryz.prog 24 #[.int .i64 T, .bool true] w fun e w' => e = .returned (.int .i64 (G.off * 4)) ∧ w = w') := Lib.hid (fun w => by
    have h := size_any T true w
    rw [← go1] at h
    exact h)
  have HHA : Hid (∀ w : World, Calls Tryz.prog 22 #[.int .i64 T] w fun e w' => e = .returned (.bool true) ∧ w = w') := Lib.hid (fun w => by
    have h := hasAck_any T w
    rw [hab] at h
    exact h)
  have HTXT : Hid (∀ w : World, True) := Lib.hid (fun _ => trivial)
  have HG := Lib.hid hG
  have HE2 := Lib.hid eh2
  clear hmo hd hdl el hll hge hgo hgh hgd hok herr hh2 hsl hds go1 hG hab hsb hcb hX eh2 hsd HTXT
  go_enter Tryz.func16, Tryz.ntmps16
  go_upto_region 5 with (go_at_call 18; refine (begun_any _).mono ?_; rintro e w0 ⟨rfl, hb0⟩)
  have HB0 := Lib.hid hb0
  clear hb0
  go_cut [1] (fun u w' => w' = w0 ∧ u = .bool true)
  case first =>
    rcases hx with ⟨rfl, hx2⟩ | ⟨rfl, hx2⟩
    · clear hx2
      go_wp2
      go_meet
      exact ⟨rfl, rfl⟩
    · obtain ⟨q2, hq2⟩ : ∃ q, (T != 2) = q := ⟨_, rfl⟩
      obtain ⟨q3, hq3⟩ : ∃ q, (T != 3) = q := ⟨_, rfl⟩
      obtain ⟨q4, hq4⟩ : ∃ q, (T != 4) = q := ⟨_, rfl⟩
      rw [hq2, hq3, hq4] at hx2
      have HX2 := Lib.hid hx2
      clear hx2
      cases q2 <;> cases q3
      all_goals
        go_wp2
        go_meet
        exact ⟨rfl, by first | (rw [HX2.out]; done) | (rw [HX2.out]; rfl)⟩
  case rest =>
    obtain ⟨hw, hu⟩ := hcut
    subst hw
    subst hu
    go_upto_region 10 with (refine store_blk rfl _ _ rfl _ Hd.zero ⟨7, 9, 0, 0, 0, 0, T, true, S, 0, 0, 0, 0, 0, 0⟩ rfl rfl (hd_new _) ?_; intro W2 hc2 hg2)
    have hb2 : Below w.heap.size w W2 := (bel_trans HB0.out (bel_alloc _ _)).grown hg2 (bel_trans HB0.out (bel_alloc _ _)).size (fun k hk => by cases hk; exact HB0.out.size)
    have hCw : w.heap.size ≤ wc.heap.size := HB0.out.size
    obtain ⟨C, hC⟩ : ∃ C, C = wc.heap.size := ⟨_, rfl⟩
    rw [← hC] at hc2 hCw ⊢
    clear hg2 HB0 hC hS
    have d9 : W2.cell? ⟨C, 9, none⟩ = some (.int .u64 0) := hc2.at_.2.2.2.2.2.2.2.2.2.1
    have f9 := hc2.free 9
    have hc3 := hc2.set ⟨7, 9, 0, 0, 0, 0, T, true, S, A0, 0, 0, 0, 0, 0⟩ 9 (.int .u64 (A0 : Int)) rfl
    have hb3 : Below w.heap.size w (W2.setCell ⟨C, 9, none⟩ (.int .u64 (A0 : Int))) := hb2.setCell (p := ⟨C, 9, none⟩) hCw _
    have HCX := Lib.hid hc3; have HBX := Lib.hid hb3
    clear hc2 hb2 hc3 hb3
    go_upto_region 12 with (go_at_call 22; refine (HHA.out _).mono ?_; rintro e w1 ⟨rfl, rfl⟩)
    have hc3 := HCX.out; have hb3 := HBX.out
    clear d9 f9 HCX HBX
    generalize W2.setCell ⟨C, 9, none⟩ (.int .u64 (A0 : Int)) = W3 at *
    have HC3 := Lib.hid hc3
    have HB3 := Lib.hid hb3
    clear hc3 hb3 hA0
    have d11 := HC3.out.at_.2.2.2.2.2.2.2.2.2.2.2.1
    have d12 := HC3.out.at_.2.2.2.2.2.2.2.2.2.2.2.2.1
    have d13 := HC3.out.at_.2.2.2.2.2.2.2.2.2.2.2.2.2.1
    have d14 := HC3.out.at_.2.2.2.2.2.2.2.2.2.2.2.2.2.2
    have f11 := HC3.out.free 11
    have f12 := HC3.out.free 12
    have f13 := HC3.out.free 13
    have f14 := HC3.out.free 14
    go_upto_region 18 with fail
    have hc4 := (((HC3.out.set ⟨7, 9, 0, 0, 0, 0, T, true, S, A0, 0, c, 0, 0, 0⟩ 11 (.int .i64 (c : Int)) rfl).set ⟨7, 9, 0, 0, 0, 0, T, true, S, A0, 0, c, c, 0, 0⟩ 12 (.int .u8 (c : Int)) rfl).set ⟨7, 9, 0, 0, 0, 0, T, true, S, A0, 0, c, c, 1, 0⟩ 13 (.int .u8 1) rfl).set ⟨7, 9, 0, 0, 0, 0, T, true, S, A0, 0, c, c, 1, 2⟩ 14 (.int .u8 2) rfl
    have hb4 := (((HB3.out.setCell (p := ⟨C, 11, none⟩) hCw (.int .i64 (c : Int))).setCell (p := ⟨C, 12, none⟩) hCw (.int .u8 (c : Int))).setCell (p := ⟨C, 13, none⟩) hCw (.int .u8 1)).setCell (p := ⟨C, 14, none⟩) hCw (.int .u8 2)
    clear d11 d12 d13 d14 f11 f12 f13 f14 HC3 HB3
    generalize ((((W3.setCell ⟨C, 11, none⟩ (.int .i64 (c : Int))).setCell ⟨C, 12, none⟩ (.int .u8 (c : Int))).setCell ⟨C, 13, none⟩ (.int .u8 1)).setCell ⟨C, 14, none⟩ (.int .u8 2)) = W4 at *
    rw [← HE2.out] at hc4
    have HC4 := Lib.hid hc4; have HB4 := Lib.hid hb4
    clear hc4 hb4 HE2
    go_upto_region 19 with (go_at_call 19; refine (HTX.out _).mono ?_; rintro e w1 ⟨rfl, rfl⟩)
    clear HTX
    go_upto_region 20 with (first
      | (refine build_pk rfl _ _ rfl h2 ds rfl rfl ?_)
      | (refine load_blk rfl _ rfl C rfl _ HC4.out ?_)
      | (go_at_call 39; refine (HPUT.out _).mono ?_; rintro e w5 ⟨rfl, hb5⟩))
    have HC5 := Lib.hid (HC4.out.below hb5)
    have HB5 := Lib.hid (bel_trans HB4.out hb5)
    clear hb5 HC4 HB4 HPUT
    go_upto_region 21 with (first
      | (go_at_call 41; refine (HGET.out _).mono ?_; rintro e w6 ⟨p, cap, rfl, ho6⟩)
      | (refine store_pk rfl _ _ rfl _ Hd.zero G _ _ ds p 0 cap rfl rfl (pk_new_at _ _ rfl) ?_; intro W7 hp7 hg7))
    have hb6 := bel_trans HB5.out ho6.2.1
    have hc6 := HC5.out.below ho6.2.1
    have hb7 : Below w.heap.size w W7 := (bel_trans hb6 (bel_alloc _ _)).grown hg7 (bel_trans hb6 (bel_alloc _ _)).size (fun k hk => by cases hk; exact hb6.size)
    have hlt6 := hc6.lt
    have hc7 := (hc6.below (bel_alloc w6 _)).other hg7 (by simp; omega)
    have hCne : C ≠ w6.heap.size := by omega
    have hw6 : w.heap.size ≤ w6.heap.size := hb6.size
    obtain ⟨D, hD⟩ : ∃ D, D = w6.heap.size := ⟨_, rfl⟩
    rw [← hD] at hp7 hCne hw6 ⊢
    have c15 := hp7.cells.1
    have c16 := hp7.cells.2
    have c2 := hp7.range 2 (.int .i64 G.off) rfl
    rw [Nat.zero_add] at c2
    have HP7 := Lib.hid hp7; have HB7 := Lib.hid hb7; have HC7 := Lib.hid hc7
    clear hp7 hb7 hc7 hb6 hc6 hg7 ho6 HB5 HC5 HGET hlt6 hD
    have hne : (4 * G.off != G.off * 4) = false := by rw [bne_eq_false_iff_eq]; omega
    go_quiet ((go_at_call 24; exact Calls.quiet_of_same ((HSZ.out _).mono fun e w' hh => ⟨hh.1, hh.2.symm⟩)))
    have hp8 := HP7.out.below (bel_drewN W7 nq)
    have hc8 := HC7.out.below (bel_drewN W7 nq)
    have hb8 := bel_trans HB7.out (bel_drewN W7 nq)
    clear HP7 HC7 HB7 c15 c16 c2 hne
    generalize W7.drewN nq = W8 at *
    have e2 := hp8.range 2 (.int .i64 G.off) rfl
    have e5 := hp8.range 5 (.int .i64 G.sum) rfl
    rw [Nat.zero_add] at e2 e5
    have f2 := frozen_of_row W8 D 2 _ _ hp8
    have f5 := frozen_of_row W8 D 5 _ _ hp8
    have hp9 := (hp8.set { G with off := 0 } 2 (.int .i64 0) rfl).set { G with off := 0, sum := 0 } 5 (.int .i64 0) rfl
    have hc9 := (hc8.other (grown_set W8 D 2 (.int .i64 0)) (by simp; exact hCne)).other (grown_set _ D 5 (.int .i64 0)) (by simp; exact hCne)
    have hb9 := (hb8.setCell (p := ⟨D, 2, none⟩) hw6 (.int .i64 0)).setCell (p := ⟨D, 5, none⟩) hw6 (.int .i64 0)
    rw [HG.out] at hp9
    have HP9 := Lib.hid hp9; have HC9 := Lib.hid hc9; have HB9 := Lib.hid hb9
    clear hp8 hc8 hb8 hp9 hc9 hb9
    go_upto_region 24 with fail
    clear e2 e5 f2 f5
    generalize ((W8.setCell ⟨D, 2, none⟩ (.int .i64 0)).setCell ⟨D, 5, none⟩ (.int .i64 0)) = W9 at *
    have hez : ∀ w : World, (binOp .eql 26 h2.val h2.val).run Tryz.prog w = .ok (.bool true) w := fun w => by
      have := eqlHd h2 h2 w
      rw [(Hd.eqB_iff h2 h2).2 rfl] at this
      exact this
    have hgz := fun op x y w => guardHd2 op x y h2 h2 w
    go_wp2_with (first
      | (refine load_blk rfl _ rfl C rfl _ HC9.out ?_)
      | (refine load_mid rfl _ rfl D rfl _ _ _ HP9.out ?_))
    go_ret
    exact ⟨rfl, HB9.out⟩

set_option maxHeartbeats 8000000 in
set_option maxRecDepth 100000 in
theorem types_no0t (T : Int) (h0 : 0 ≤ T) (h9 : T ≤ 9) (hab : hasAckB T = false) (hsb : serviceB T = false) (hcb : codeB T = false) (t0 : (T == 0) = false) (t1 : (T == 1) = false) (t7 : (T == 7) = false) (t k1 : Int) (x : Bool) (hx : (x = true ∧ true = true) ∨ (x = false ∧ true = (T != 2 && T != 3 && T != 4))) (hX : true = true ∨ T = 2 ∨ T = 3 ∨ T = 4)
    (s a sv c : Nat) (sd : ByteArray) (hk1 : t.tmod 10 = k1) (b1 : -10 < k1) (b2 : k1 < 10) (hT : (k1 + 10).tmod 10 = T) (hs : s < 18446744073709551616) (ha : a < 18446744073709551616) (hv : sv < 4294967296) (hc : c < 256) (hsd : sd.size ≤ maxLen) (w : World) :
    Calls Tryz.prog 16 #[.int .i64 t, .bool x, .int .u64 s, .int .u64 a, .int .u32 sv, .int .u8 c, .string sd] w fun e w' => e = .returned (.bool true) ∧ Below w.heap.size w w' := by
  obtain ⟨S, hS⟩ : ∃ S : Nat, (s : Int) % 281474976710656 = (S : Int) := ⟨s % 281474976710656, by omega⟩
  obtain ⟨A0, hA0⟩ : ∃ S : Nat, (a : Int) % 281474976710656 = (S : Int) := ⟨a % 281474976710656, by omega⟩
  have hmo : mostN true = 281474976710656 := rfl
  obtain ⟨d, hd, hdl⟩ : ∃ l, sd.data.toList.take 50 = l ∧ l.length ≤ 50 := ⟨_, rfl, by simp; omega⟩
  have HTX := Lib.hid (fun w => textN_any sd 50 50 d rfl (by omega) hsd hd w)
  obtain ⟨l, G, el, hll, hge, hgo, hgh, hgd, go1, go2, go3, hG⟩ := tyHd_round T true S A0 sv c d h0 h9 hX (by omega) (by omega) hv hc hdl
  have hok := tyHd_ok T true S A0 sv c (by omega) (by omega) hv hc
  have herr := tyHd_err T true S A0 sv c d h0 h9 hX (by omega) (by omega) hc hdl
  obtain ⟨h2, hh2⟩ : ∃ h2, tyHd T true S A0 sv c = h2 := ⟨_, rfl⟩
  have eh2 : h2 = ⟨7, 9, 0, 0, 0, 0, T, true, S, 0, 0, 0, 0, 0, 0⟩ := by
    rw [← hh2]; unfold tyHd; rw [hab, hsb, hcb]; rfl
  rw [hh2] at el hok herr hG
  obtain ⟨sl, hsl⟩ : ∃ b, str l = b := ⟨_, rfl⟩
  obtain ⟨ds, hds⟩ : ∃ b, str d = b := ⟨_, rfl⟩
  have HPUT : Hid (∀ W, Calls Tryz.prog 39 #[Pv h2 (.slice none 0 0) ds] W fun e w' => e = .returned (.tuple #[.string sl, .int .i64 0]) ∧ Below W.heap.size W w') := Lib.hid (fun W => by
    have hp := pktPut_any h2 hok _ [] d W (optsAt_nil W) (by have : maxLen = 140737488355327 ∨ 50 ≤ maxLen := .inr (by unfold maxLen; omega); unfold maxLen; omega)
    unfold PutPk at hp
    rw [herr, el, hsl, hds] at hp
    exact hp)
  have HGET : Hid (∀ W, Calls Tryz.prog 41 #[.string sl] W fun e w' => ∃ p cap, e = .returned (.tuple #[Pv G (.slice p 0 cap) ds, .int .i64 0]) ∧ OptsOwn W.heap.size (.slice p 0 cap) [] W w') := Lib.hid (fun W => by
    have hp := pktGet_yes hll hge hgo W
    rw [hgh, hgd, hsl, hds] at hp
    exact hp)
  rw [hds] at HTX
  have HSZ : Hid (∀ w : World, Calls Tryz.prog 24 #[.int .i64 T, .bool true] w fun e w' => e = .returned (.int .i64 (G.off * 4)) ∧ w = w') := Lib.hid (fun w => by
    have h := size_any T true w
    rw [← go1] at h
    exact h)
  have HHA : Hid (∀ w : World, Calls Tryz.prog 22 #[.int .i64 T] w fun e w' => e = .returned (.bool false) ∧ w = w') := Lib.hid (fun w => by
    have h := hasAck_any T w
    rw [hab] at h
    exact h)
  have HTXT : Hid (∀ w : World, True) := Lib.hid (fun _ => trivial)
  have HG := Lib.hid hG
  have HE2 := Lib.hid eh2
  clear hmo hd hdl el hll hge hgo hgh hgd hok herr hh2 hsl hds go1 hG hab hsb hcb hX eh2 hsd HTXT
  go_enter Tryz.func16, Tryz.ntmps16
  go_upto_region 5 with (go_at_call 18; refine (begun_any _).mono ?_; rintro e w0 ⟨rfl, hb0⟩)
  have HB0 := Lib.hid hb0
  clear hb0
  go_cut [1] (fun u w' => w' = w0 ∧ u = .bool true)
  case first =>
    rcases hx with ⟨rfl, hx2⟩ | ⟨rfl, hx2⟩
    · clear hx2
      go_wp2
      go_meet
      exact ⟨rfl, rfl⟩
    · obtain ⟨q2, hq2⟩ : ∃ q, (T != 2) = q := ⟨_, rfl⟩
      obtain ⟨q3, hq3⟩ : ∃ q, (T != 3) = q := ⟨_, rfl⟩
      obtain ⟨q4, hq4⟩ : ∃ q, (T != 4) = q := ⟨_, rfl⟩
      rw [hq2, hq3, hq4] at hx2
      have HX2 := Lib.hid hx2
      clear hx2
      cases q2 <;> cases q3
      all_goals
        go_wp2
        go_meet
        exact ⟨rfl, by first | (rw [HX2.out]; done) | (rw [HX2.out]; rfl)⟩
  case rest =>
    obtain ⟨hw, hu⟩ := hcut
    subst hw
    subst hu
    go_upto_region 10 with (refine store_blk rfl _ _ rfl _ Hd.zero ⟨7, 9, 0, 0, 0, 0, T, true, S, 0, 0, 0, 0, 0, 0⟩ rfl rfl (hd_new _) ?_; intro W2 hc2 hg2)
    have hb2 : Below w.heap.size w W2 := (bel_trans HB0.out (bel_alloc _ _)).grown hg2 (bel_trans HB0.out (bel_alloc _ _)).size (fun k hk => by cases hk; exact HB0.out.size)
    have hCw : w.heap.size ≤ wc.heap.size := HB0.out.size
    obtain ⟨C, hC⟩ : ∃ C, C = wc.heap.size := ⟨_, rfl⟩
    rw [← hC] at hc2 hCw ⊢
    clear hg2 HB0 hC hS
    have HCX := Lib.hid hc2; have HBX := Lib.hid hb2
    clear hc2 hb2
    go_upto_region 12 with (go_at_call 22; refine (HHA.out _).mono ?_; rintro e w1 ⟨rfl, rfl⟩)
    have hc3 := HCX.out; have hb3 := HBX.out
    clear HCX HBX
    generalize W2 = W3 at *
    have HC3 := Lib.hid hc3
    have HB3 := Lib.hid hb3
    clear hc3 hb3 hA0
    go_upto_region 18 with fail
    have hc4 := HC3.out; have hb4 := HB3.out
    clear HC3 HB3
    generalize W3 = W4 at *
    rw [← HE2.out] at hc4
    have HC4 := Lib.hid hc4; have HB4 := Lib.hid hb4
    clear hc4 hb4 HE2
    go_upto_region 19 with (go_at_call 19; refine (HTX.out _).mono ?_; rintro e w1 ⟨rfl, rfl⟩)
    clear HTX
    go_upto_region 20 with (first
      | (refine build_pk rfl _ _ rfl h2 ds rfl rfl ?_)
      | (refine load_blk rfl _ rfl C rfl _ HC4.out ?_)
      | (go_at_call 39; refine (HPUT.out _).mono ?_; rintro e w5 ⟨rfl, hb5⟩))
    have HC5 := Lib.hid (HC4.out.below hb5)
    have HB5 := Lib.hid (bel_trans HB4.out hb5)
    clear hb5 HC4 HB4 HPUT
    go_upto_region 21 with (first
      | (go_at_call 41; refine (HGET.out _).mono ?_; rintro e w6 ⟨p, cap, rfl, ho6⟩)
      | (refine store_pk rfl _ _ rfl _ Hd.zero G _ _ ds p 0 cap rfl rfl (pk_new_at _ _ rfl) ?_; intro W7 hp7 hg7))
    have hb6 := bel_trans HB5.out ho6.2.1
    have hc6 := HC5.out.below ho6.2.1
    have hb7 : Below w.heap.size w W7 := (bel_trans hb6 (bel_alloc _ _)).grown hg7 (bel_trans hb6 (bel_alloc _ _)).size (fun k hk => by cases hk; exact hb6.size)
    have hlt6 := hc6.lt
    have hc7 := (hc6.below (bel_alloc w6 _)).other hg7 (by simp; omega)
    have hCne : C ≠ w6.heap.size := by omega
    have hw6 : w.heap.size ≤ w6.heap.size := hb6.size
    obtain ⟨D, hD⟩ : ∃ D, D = w6.heap.size := ⟨_, rfl⟩
    rw [← hD] at hp7 hCne hw6 ⊢
    have c15 := hp7.cells.1
    have c16 := hp7.cells.2
    have c2 := hp7.range 2 (.int .i64 G.off) rfl
    rw [Nat.zero_add] at c2
    have HP7 := Lib.hid hp7; have HB7 := Lib.hid hb7; have HC7 := Lib.hid hc7
    clear hp7 hb7 hc7 hb6 hc6 hg7 ho6 HB5 HC5 HGET hlt6 hD
    have hne : (4 * G.off != G.off * 4) = false := by rw [bne_eq_false_iff_eq]; omega
    go_quiet ((go_at_call 24; exact Calls.quiet_of_same ((HSZ.out _).mono fun e w' hh => ⟨hh.1, hh.2.symm⟩)))
    have hp8 := HP7.out.below (bel_drewN W7 nq)
    have hc8 := HC7.out.below (bel_drewN W7 nq)
    have hb8 := bel_trans HB7.out (bel_drewN W7 nq)
    clear HP7 HC7 HB7 c15 c16 c2 hne
    generalize W7.drewN nq = W8 at *
    have e2 := hp8.range 2 (.int .i64 G.off) rfl
    have e5 := hp8.range 5 (.int .i64 G.sum) rfl
    rw [Nat.zero_add] at e2 e5
    have f2 := frozen_of_row W8 D 2 _ _ hp8
    have f5 := frozen_of_row W8 D 5 _ _ hp8
    have hp9 := (hp8.set { G with off := 0 } 2 (.int .i64 0) rfl).set { G with off := 0, sum := 0 } 5 (.int .i64 0) rfl
    have hc9 := (hc8.other (grown_set W8 D 2 (.int .i64 0)) (by simp; exact hCne)).other (grown_set _ D 5 (.int .i64 0)) (by simp; exact hCne)
    have hb9 := (hb8.setCell (p := ⟨D, 2, none⟩) hw6 (.int .i64 0)).setCell (p := ⟨D, 5, none⟩) hw6 (.int .i64 0)
    rw [HG.out] at hp9
    have HP9 := Lib.hid hp9; have HC9 := Lib.hid hc9; have HB9 := Lib.hid hb9
    clear hp8 hc8 hb8 hp9 hc9 hb9
    go_upto_region 24 with fail
    clear e2 e5 f2 f5
    generalize ((W8.setCell ⟨D, 2, none⟩ (.int .i64 0)).setCell ⟨D, 5, none⟩ (.int .i64 0)) = W9 at *
    have hez : ∀ w : World, (binOp .eql 26 h2.val h2.val).run Tryz.prog w = .ok (.bool true) w := fun w => by
      have := eqlHd h2 h2 w
      rw [(Hd.eqB_iff h2 h2).2 rfl] at this
      exact this
    have hgz := fun op x y w => guardHd2 op x y h2 h2 w
    go_wp2_with (first
      | (refine load_blk rfl _ rfl C rfl _ HC9.out ?_)
      | (refine load_mid rfl _ rfl D rfl _ _ _ HP9.out ?_))
    go_ret
    exact ⟨rfl, HB9.out⟩

set_option maxHeartbeats 8000000 in
set_option maxRecDepth 100000 in
theorem types_no1t (T : Int) (h0 : 0 ≤ T) (h9 : T ≤ 9) (hab : hasAckB T = true) (hsb : serviceB T = false) (hcb : codeB T = false) (t0 : (T == 0) = false) (t1 : (T == 1) = false) (t7 : (T == 7) = false) (t k1 : Int) (x : Bool) (hx : (x = true ∧ true = true) ∨ (x = false ∧ true = (T != 2 && T != 3 && T != 4))) (hX : true = true ∨ T = 2 ∨ T = 3 ∨ T = 4)
    (s a sv c : Nat) (sd : ByteArray) (hk1 : t.tmod 10 = k1) (b1 : -10 < k1) (b2 : k1 < 10) (hT : (k1 + 10).tmod 10 = T) (hs : s < 18446744073709551616) (ha : a < 18446744073709551616) (hv : sv < 4294967296) (hc : c < 256) (hsd : sd.size ≤ maxLen) (w : World) :
    Calls Tryz.prog 16 #[.int .i64 t, .bool x, .int .u64 s, .int .u64 a, .int .u32 sv, .int .u8 c, .string sd] w fun e w' => e = .returned (.bool true) ∧ Below w.heap.size w w' := by
  obtain ⟨S, hS⟩ : ∃ S : Nat, (s : Int) % 281474976710656 = (S : Int) := ⟨s % 281474976710656, by omega⟩
  obtain ⟨A0, hA0⟩ : ∃ S : Nat, (a : Int) % 281474976710656 = (S : Int) := ⟨a % 281474976710656, by omega⟩
  have hmo : mostN true = 281474976710656 := rfl
  obtain ⟨d, hd, hdl⟩ : ∃ l, sd.data.toList.take 50 = l ∧ l.length ≤ 50 := ⟨_, rfl, by simp; omega⟩
  have HTX := Lib.hid (fun w => textN_any sd 50 50 d rfl (by omega) hsd hd w)
  obtain ⟨l, G, el, hll, hge, hgo, hgh, hgd, go1, go2, go3, hG⟩ := tyHd_round T true S A0 sv c d h0 h9 hX (by omega) (by omega) hv hc hdl
  have hok := tyHd_ok T true S A0 sv c (by omega) (by omega) hv hc
  have herr := tyHd_err T true S A0 sv c d h0 h9 hX (by omega) (by omega) hc hdl
  obtain ⟨h2, hh2⟩ : ∃ h2, tyHd T true S A0 sv c = h2 := ⟨_, rfl⟩
  have eh2 : h2 = ⟨7, 9, 0, 0, 0, 0, T, true, S, A0, 0, 0, 0, 0, 0⟩ := by
    rw [← hh2]; unfold tyHd; rw [hab, hsb, hcb]; rfl
  rw [hh2] at el hok herr hG
  obtain ⟨sl, hsl⟩ : ∃ b, str l = b := ⟨_, rfl⟩
  obtain ⟨ds, hds⟩ : ∃ b, str d = b := ⟨_, rfl⟩
  have HPUT : Hid (∀ W, Calls Tryz.prog 39 #[Pv h2 (.slice none 0 0) ds] W fun e w' => e = .returned (.tuple #[.string sl, .int .i64 0]) ∧ Below W.heap.size W w') := Lib.hid (fun W => by
    have hp := pktPut_any h2 hok _ [] d W (optsAt_nil W) (by have : maxLen = 140737488355327 ∨ 50 ≤ maxLen := .inr (by unfold maxLen; omega); unfold maxLen; omega)
    unfold PutPk at hp
    rw [herr, el, hsl, hds] at hp
    exact hp)
  have HGET : Hid (∀ W, Calls Tryz.prog 41 #[.string sl] W fun e w' => ∃ p cap, e = .returned (.tuple #[Pv G (.slice p 0 cap) ds, .int .i64 0]) ∧ OptsOwn W.heap.size (.slice p 0 cap) [] W w') := Lib.hid (fun W => by
    have hp := pktGet_yes hll hge hgo W
    rw [hgh, hgd, hsl, hds] at hp
    exact hp)
  rw [hds] at HTX
  have HSZ : Hid (∀ w : World, Calls Tryz.prog 24 #[.int .i64 T, .bool true] w fun e w' => e = .returned (.int .i64 (G.off * 4)) ∧ w = w') := Lib.hid (fun w => by
    have h := size_any T true w
    rw [← go1] at h
    exact h)
  have HHA : Hid (∀ w : World, Calls Tryz.prog 22 #[.int .i64 T] w fun e w' => e = .returned (.bool true) ∧ w = w') := Lib.hid (fun w => by
    have h := hasAck_any T w
    rw [hab] at h
    exact h)
  have HTXT : Hid (∀ w : World, True) := Lib.hid (fun _ => trivial)
  have HG := Lib.hid hG
  have HE2 := Lib.hid eh2
  clear hmo hd hdl el hll hge hgo hgh hgd hok herr hh2 hsl hds go1 hG hab hsb hcb hX eh2 hsd HTXT
  go_enter Tryz.func16, Tryz.ntmps16
  go_upto_region 5 with (go_at_call 18; refine (begun_any _).mono ?_; rintro e w0 ⟨rfl, hb0⟩)
  have HB0 := Lib.hid hb0
  clear hb0
  go_cut [1] (fun u w' => w' = w0 ∧ u = .bool true)
  case first =>
    rcases hx with ⟨rfl, hx2⟩ | ⟨rfl, hx2⟩
    · clear hx2
      go_wp2
      go_meet
      exact ⟨rfl, rfl⟩
    · obtain ⟨q2, hq2⟩ : ∃ q, (T != 2) = q := ⟨_, rfl⟩
      obtain ⟨q3, hq3⟩ : ∃ q, (T != 3) = q := ⟨_, rfl⟩
      obtain ⟨q4, hq4⟩ : ∃ q, (T != 4) = q := ⟨_, rfl⟩
      rw [hq2, hq3, hq4] at hx2
      have HX2 := Lib.hid hx2
      clear hx2
      cases q2 <;> cases q3
      all_goals
        go_wp2
        go_meet
        exact ⟨rfl, by first | (rw [HX2.out]; done) | (rw [HX2.out]; rfl)⟩
  case rest =>
    obtain ⟨hw, hu⟩ := hcut
    subst hw
    subst hu
    go_upto_region 10 with (refine store_blk rfl _ _ rfl _ Hd.zero ⟨7, 9, 0, 0, 0, 0, T, true, S, 0, 0, 0, 0, 0, 0⟩ rfl rfl (hd_new _) ?_; intro W2 hc2 hg2)
    have hb2 : Below w.heap.size w W2 := (bel_trans HB0.out (bel_alloc _ _)).grown hg2 (bel_trans HB0.out (bel_alloc _ _)).size (fun k hk => by cases hk; exact HB0.out.size)
    have hCw : w.heap.size ≤ wc.heap.size := HB0.out.size
    obtain ⟨C, hC⟩ : ∃ C, C = wc.heap.size := ⟨_, rfl⟩
    rw [← hC] at hc2 hCw ⊢
    clear hg2 HB0 hC hS
    have d9 : W2.cell? ⟨C, 9, none⟩ = some (.int .u64 0) := hc2.at_.2.2.2.2.2.2.2.2.2.1
    have f9 := hc2.free 9
    have hc3 := hc2.set ⟨7, 9, 0, 0, 0, 0, T, true, S, A0, 0, 0, 0, 0, 0⟩ 9 (.int .u64 (A0 : Int)) rfl
    have hb3 : Below w.heap.size w (W2.setCell ⟨C, 9, none⟩ (.int .u64 (A0 : Int))) := hb2.setCell (p := ⟨C, 9, none⟩) hCw _
    have HCX := Lib.hid hc3; have HBX := Lib.hid hb3
    clear hc2 hb2 hc3 hb3
    go_upto_region 12 with (go_at_call 22; refine (HHA.out _).mono ?_; rintro e w1 ⟨rfl, rfl⟩)
    have hc3 := HCX.out; have hb3 := HBX.out
    clear d9 f9 HCX HBX
    generalize W2.setCell ⟨C, 9, none⟩ (.int .u64 (A0 : Int)) = W3 at *
    have HC3 := Lib.hid hc3
    have HB3 := Lib.hid hb3
    clear hc3 hb3 hA0
    go_upto_region 18 with fail
    have hc4 := HC3.out; have hb4 := HB3.out
    clear HC3 HB3
    generalize W3 = W4 at *
    rw [← HE2.out] at hc4
    have HC4 := Lib.hid hc4; have HB4 := Lib.hid hb4
    clear hc4 hb4 HE2
    go_upto_region 19 with (go_at_call 19; refine (HTX.out _).mono ?_; rintro e w1 ⟨rfl, rfl⟩)
    clear HTX
    go_upto_region 20 with (first
      | (refine build_pk rfl _ _ rfl h2 ds rfl rfl ?_)
      | (refine load_blk rfl _ rfl C rfl _ HC4.out ?_)
      | (go_at_call 39; refine (HPUT.out _).mono ?_; rintro e w5 ⟨rfl, hb5⟩))
    have HC5 := Lib.hid (HC4.out.below hb5)
    have HB5 := Lib.hid (bel_trans HB4.out hb5)
    clear hb5 HC4 HB4 HPUT
    go_upto_region 21 with (first
      | (go_at_call 41; refine (HGET.out _).mono ?_; rintro e w6 ⟨p, cap, rfl, ho6⟩)
      | (refine store_pk rfl _ _ rfl _ Hd.zero G _ _ ds p 0 cap rfl rfl (pk_new_at _ _ rfl) ?_; intro W7 hp7 hg7))
    have hb6 := bel_trans HB5.out ho6.2.1
    have hc6 := HC5.out.below ho6.2.1
    have hb7 : Below w.heap.size w W7 := (bel_trans hb6 (bel_alloc _ _)).grown hg7 (bel_trans hb6 (bel_alloc _ _)).size (fun k hk => by cases hk; exact hb6.size)
    have hlt6 := hc6.lt
    have hc7 := (hc6.below (bel_alloc w6 _)).other hg7 (by simp; omega)
    have hCne : C ≠ w6.heap.size := by omega
    have hw6 : w.heap.size ≤ w6.heap.size := hb6.size
    obtain ⟨D, hD⟩ : ∃ D, D = w6.heap.size := ⟨_, rfl⟩
    rw [← hD] at hp7 hCne hw6 ⊢
    have c15 := hp7.cells.1
    have c16 := hp7.cells.2
    have c2 := hp7.range 2 (.int .i64 G.off) rfl
    rw [Nat.zero_add] at c2
    have HP7 := Lib.hid hp7; have HB7 := Lib.hid hb7; have HC7 := Lib.hid hc7
    clear hp7 hb7 hc7 hb6 hc6 hg7 ho6 HB5 HC5 HGET hlt6 hD
    have hne : (4 * G.off != G.off * 4) = false := by rw [bne_eq_false_iff_eq]; omega
    go_quiet ((go_at_call 24; exact Calls.quiet_of_same ((HSZ.out _).mono fun e w' hh => ⟨hh.1, hh.2.symm⟩)))
    have hp8 := HP7.out.below (bel_drewN W7 nq)
    have hc8 := HC7.out.below (bel_drewN W7 nq)
    have hb8 := bel_trans HB7.out (bel_drewN W7 nq)
    clear HP7 HC7 HB7 c15 c16 c2 hne
    generalize W7.drewN nq = W8 at *
    have e2 := hp8.range 2 (.int .i64 G.off) rfl
    have e5 := hp8.range 5 (.int .i64 G.sum) rfl
    rw [Nat.zero_add] at e2 e5
    have f2 := frozen_of_row W8 D 2 _ _ hp8
    have f5 := frozen_of_row W8 D 5 _ _ hp8
    have hp9 := (hp8.set { G with off := 0 } 2 (.int .i64 0) rfl).set { G with off := 0, sum := 0 } 5 (.int .i64 0) rfl
    have hc9 := (hc8.other (grown_set W8 D 2 (.int .i64 0)) (by simp; exact hCne)).other (grown_set _ D 5 (.int .i64 0)) (by simp; exact hCne)
    have hb9 := (hb8.setCell (p := ⟨D, 2, none⟩) hw6 (.int .i64 0)).setCell (p := ⟨D, 5, none⟩) hw6 (.int .i64 0)
    rw [HG.out] at hp9
    have HP9 := Lib.hid hp9; have HC9 := Lib.hid hc9; have HB9 := Lib.hid hb9
    clear hp8 hc8 hb8 hp9 hc9 hb9
    go_upto_region 24 with fail
    clear e2 e5 f2 f5
    generalize ((W8.setCell ⟨D, 2, none⟩ (.int .i64 0)).setCell ⟨D, 5, none⟩ (.int .i64 0)) = W9 at *
    have hez : ∀ w : World, (binOp .eql 26 h2.val h2.val).run Tryz.prog w = .ok (.bool true) w := fun w => by
      have := eqlHd h2 h2 w
      rw [(Hd.eqB_iff h2 h2).2 rfl] at this
      exact this
    have hgz := fun op x y w => guardHd2 op x y h2 h2 w
    go_wp2_with (first
      | (refine load_blk rfl _ rfl C rfl _ HC9.out ?_)
      | (refine load_mid rfl _ rfl D rfl _ _ _ HP9.out ?_))
    go_ret
    exact ⟨rfl, HB9.out⟩

set_option maxHeartbeats 8000000 in
set_option maxRecDepth 100000 in
theorem types_no0f (T : Int) (h0 : 0 ≤ T) (h9 : T ≤ 9) (hab : hasAckB T = false) (hsb : serviceB T = false) (hcb : codeB T = false) (t0 : (T == 0) = false) (t1 : (T == 1) = false) (t7 : (T == 7) = false) (t k1 : Int) (x : Bool) (hx : (x = true ∧ false = true) ∨ (x = false ∧ false = (T != 2 && T != 3 && T != 4))) (hX : false = true ∨ T = 2 ∨ T = 3 ∨ T = 4)
    (s a sv c : Nat) (sd : ByteArray) (hk1 : t.tmod 10 = k1) (b1 : -10 < k1) (b2 : k1 < 10) (hT : (k1 + 10).tmod 10 = T) (hs : s < 18446744073709551616) (ha : a < 18446744073709551616) (hv : sv < 4294967296) (hc : c < 256) (hsd : sd.size ≤ maxLen) (w : World) :
    Calls Tryz.prog 16 #[.int .i64 t, .bool x, .int .u64 s, .int .u64 a, .int .u32 sv, .int .u8 c, .string sd] w fun e w' => e = .returned (.bool true) ∧ Below w.heap.size w w' := by
  obtain ⟨S, hS⟩ : ∃ S : Nat, (s : Int) % 16777216 = (S : Int) := ⟨s % 16777216, by omega⟩
  obtain ⟨A0, hA0⟩ : ∃ S : Nat, (a : Int) % 16777216 = (S : Int) := ⟨a % 16777216, by omega⟩
  have hmo : mostN false = 16777216 := rfl
  obtain ⟨d, hd, hdl⟩ : ∃ l, sd.data.toList.take 50 = l ∧ l.length ≤ 50 := ⟨_, rfl, by simp; omega⟩
  have HTX := Lib.hid (fun w => textN_any sd 50 50 d rfl (by omega) hsd hd w)
  obtain ⟨l, G, el, hll, hge, hgo, hgh, hgd, go1, go2, go3, hG⟩ := tyHd_round T false S A0 sv c d h0 h9 hX (by omega) (by omega) hv hc hdl
  have hok := tyHd_ok T false S A0 sv c (by omega) (by omega) hv hc
  have herr := tyHd_err T false S A0 sv c d h0 h9 hX (by omega) (by omega) hc hdl
  obtain ⟨h2, hh2⟩ : ∃ h2, tyHd T false S A0 sv c = h2 := ⟨_, rfl⟩
  have eh2 : h2 = ⟨7, 9, 0, 0, 0, 0, T, false, S, 0, 0, 0, 0, 0, 0⟩ := by
    rw [← hh2]; unfold tyHd; rw [hab, hsb, hcb]; rfl
  rw [hh2] at el hok herr hG
  obtain ⟨sl, hsl⟩ : ∃ b, str l = b := ⟨_, rfl⟩
  obtain ⟨ds, hds⟩ : ∃ b, str d = b := ⟨_, rfl⟩
  have HPUT : Hid (∀ W, Calls Tryz.prog 39 #[Pv h2 (.slice none 0 0) ds] W fun e w' => e = .returned (.tuple #[.string sl, .int .i64 0]) ∧ Below W.heap.size W w') := Lib.hid (fun W => by
    have hp := pktPut_any h2 hok _ [] d W (optsAt_nil W) (by have : maxLen = 140737488355327 ∨ 50 ≤ maxLen := .inr (by unfold maxLen; omega); unfold maxLen; omega)
    unfold PutPk at hp
    rw [herr, el, hsl, hds] at hp
    exact hp)
  have HGET : Hid (∀ W, Calls Tryz.prog 41 #[.string sl] W fun e w' => ∃ p cap, e = .returned (.tuple #[Pv G (.slice p 0 cap) ds, .int .i64 0]) ∧ OptsOwn W.heap.size (.slice p 0 cap) [] W w') := Lib.hid (fun W => by
    have hp := pktGet_yes hll hge hgo W
    rw [hgh, hgd, hsl, hds] at hp
    exact hp)
  rw [hds] at HTX
  have HSZ : Hid (∀ w : World, Calls Tryz.prog 24 #[.int .i64 T, .bool false] w fun e w' => e = .returned (.int .i64 (G.off * 4)) ∧ w = w') := Lib.hid (fun w => by
    have h := size_any T false w
    rw [← go1] at h
    exact h)
  have HHA : Hid (∀ w : World, Calls Tryz.prog 22 #[.int .i64 T] w fun e w' => e = .returned (.bool false) ∧ w = w') := Lib.hid (fun w => by
    have h := hasAck_any T w
    rw [hab] at h
    exact h)
  have HTXT : Hid (∀ w : World, True) := Lib.hid (fun _ => trivial)
  have HG := Lib.hid hG
  have HE2 := Lib.hid eh2
  clear hmo hd hdl el hll hge hgo hgh hgd hok herr hh2 hsl hds go1 hG hab hsb hcb hX eh2 hsd HTXT
  go_enter Tryz.func16, Tryz.ntmps16
  go_upto_region 5 with (go_at_call 18; refine (begun_any _).mono ?_; rintro e w0 ⟨rfl, hb0⟩)
  have HB0 := Lib.hid hb0
  clear hb0
  go_cut [1] (fun u w' => w' = w0 ∧ u = .bool false)
  case first =>
    rcases hx with ⟨rfl, hx2⟩ | ⟨rfl, hx2⟩
    · exact absurd hx2 (by decide)
    · obtain ⟨q2, hq2⟩ : ∃ q, (T != 2) = q := ⟨_, rfl⟩
      obtain ⟨q3, hq3⟩ : ∃ q, (T != 3) = q := ⟨_, rfl⟩
      obtain ⟨q4, hq4⟩ : ∃ q, (T != 4) = q := ⟨_, rfl⟩
      rw [hq2, hq3, hq4] at hx2
      have HX2 := Lib.hid hx2
      clear hx2
      cases q2 <;> cases q3
      all_goals
        go_wp2
        go_meet
        exact ⟨rfl, by first | (rw [HX2.out]; done) | (rw [HX2.out]; rfl)⟩
  case rest =>
    obtain ⟨hw, hu⟩ := hcut
    subst hw
    subst hu
    go_upto_region 10 with (refine store_blk rfl _ _ rfl _ Hd.zero ⟨7, 9, 0, 0, 0, 0, T, false, S, 0, 0, 0, 0, 0, 0⟩ rfl rfl (hd_new _) ?_; intro W2 hc2 hg2)
    have hb2 : Below w.heap.size w W2 := (bel_trans HB0.out (bel_alloc _ _)).grown hg2 (bel_trans HB0.out (bel_alloc _ _)).size (fun k hk => by cases hk; exact HB0.out.size)
    have hCw : w.heap.size ≤ wc.heap.size := HB0.out.size
    obtain ⟨C, hC⟩ : ∃ C, C = wc.heap.size := ⟨_, rfl⟩
    rw [← hC] at hc2 hCw ⊢
    clear hg2 HB0 hC hS
    have HCX := Lib.hid hc2; have HBX := Lib.hid hb2
    clear hc2 hb2
    go_upto_region 12 with (go_at_call 22; refine (HHA.out _).mono ?_; rintro e w1 ⟨rfl, rfl⟩)
    have hc3 := HCX.out; have hb3 := HBX.out
    clear HCX HBX
    generalize W2 = W3 at *
    have HC3 := Lib.hid hc3
    have HB3 := Lib.hid hb3
    clear hc3 hb3 hA0
    go_upto_region 18 with fail
    have hc4 := HC3.out; have hb4 := HB3.out
    clear HC3 HB3
    generalize W3 = W4 at *
    rw [← HE2.out] at hc4
    have HC4 := Lib.hid hc4; have HB4 := Lib.hid hb4
    clear hc4 hb4 HE2
    go_upto_region 19 with (go_at_call 19; refine (HTX.out _).mono ?_; rintro e w1 ⟨rfl, rfl⟩)
    clear HTX
    go_upto_region 20 with (first
      | (refine build_pk rfl _ _ rfl h2 ds rfl rfl ?_)
      | (refine load_blk rfl _ rfl C rfl _ HC4.out ?_)
      | (go_at_call 39; refine (HPUT.out _).mono ?_; rintro e w5 ⟨rfl, hb5⟩))
    have HC5 := Lib.hid (HC4.out.below hb5)
    have HB5 := Lib.hid (bel_trans HB4.out hb5)
    clear hb5 HC4 HB4 HPUT
    go_upto_region 21 with (first
      | (go_at_call 41; refine (HGET.out _).mono ?_; rintro e w6 ⟨p, cap, rfl, ho6⟩)
      | (refine store_pk rfl _ _ rfl _ Hd.zero G _ _ ds p 0 cap rfl rfl (pk_new_at _ _ rfl) ?_; intro W7 hp7 hg7))
    have hb6 := bel_trans HB5.out ho6.2.1
    have hc6 := HC5.out.below ho6.2.1
    have hb7 : Below w.heap.size w W7 := (bel_trans hb6 (bel_alloc _ _)).grown hg7 (bel_trans hb6 (bel_alloc _ _)).size (fun k hk => by cases hk; exact hb6.size)
    have hlt6 := hc6.lt
    have hc7 := (hc6.below (bel_alloc w6 _)).other hg7 (by simp; omega)
    have hCne : C ≠ w6.heap.size := by omega
    have hw6 : w.heap.size ≤ w6.heap.size := hb6.size
    obtain ⟨D, hD⟩ : ∃ D, D = w6.heap.size := ⟨_, rfl⟩
    rw [← hD] at hp7 hCne hw6 ⊢
    have c15 := hp7.cells.1
    have c16 := hp7.cells.2
    have c2 := hp7.range 2 (.int .i64 G.off) rfl
    rw [Nat.zero_add] at c2
    have HP7 := Lib.hid hp7; have HB7 := Lib.hid hb7; have HC7 := Lib.hid hc7
    clear hp7 hb7 hc7 hb6 hc6 hg7 ho6 HB5 HC5 HGET hlt6 hD
    have hne : (4 * G.off != G.off * 4) = false := by rw [bne_eq_false_iff_eq]; omega
    go_quiet ((go_at_call 24; exact Calls.quiet_of_same ((HSZ.out _).mono fun e w' hh => ⟨hh.1, hh.2.symm⟩)))
    have hp8 := HP7.out.below (bel_drewN W7 nq)
    have hc8 := HC7.out.below (bel_drewN W7 nq)
    have hb8 := bel_trans HB7.out (bel_drewN W7 nq)
    clear HP7 HC7 HB7 c15 c16 c2 hne
    generalize W7.drewN nq = W8 at *
    have e2 := hp8.range 2 (.int .i64 G.off) rfl
    have e5 := hp8.range 5 (.int .i64 G.sum) rfl
    rw [Nat.zero_add] at e2 e5
    have f2 := frozen_of_row W8 D 2 _ _ hp8
    have f5 := frozen_of_row W8 D 5 _ _ hp8
    have hp9 := (hp8.set { G with off := 0 } 2 (.int .i64 0) rfl).set { G with off := 0, sum := 0 } 5 (.int .i64 0) rfl
    have hc9 := (hc8.other (grown_set W8 D 2 (.int .i64 0)) (by simp; exact hCne)).other (grown_set _ D 5 (.int .i64 0)) (by simp; exact hCne)
    have hb9 := (hb8.setCell (p := ⟨D, 2, none⟩) hw6 (.int .i64 0)).setCell (p := ⟨D, 5, none⟩) hw6 (.int .i64 0)
    rw [HG.out] at hp9
    have HP9 := Lib.hid hp9; have HC9 := Lib.hid hc9; have HB9 := Lib.hid hb9
    clear hp8 hc8 hb8 hp9 hc9 hb9
    go_upto_region 24 with fail
    clear e2 e5 f2 f5
    generalize ((W8.setCell ⟨D, 2, none⟩ (.int .i64 0)).setCell ⟨D, 5, none⟩ (.int .i64 0)) = W9 at *
    have hez : ∀ w : World, (binOp .eql 26 h2.val h2.val).run Tryz.prog w = .ok (.bool true) w := fun w => by
      have := eqlHd h2 h2 w
      rw [(Hd.eqB_iff h2 h2).2 rfl] at this
      exact this
    have hgz := fun op x y w => guardHd2 op x y h2 h2 w
    go_wp2_with (first
      | (refine load_blk rfl _ rfl C rfl _ HC9.out ?_)
      | (refine load_mid rfl _ rfl D rfl _ _ _ HP9.out ?_))
    go_ret
    exact ⟨rfl, HB9.out⟩

set_option maxHeartbeats 8000000 in
set_option maxRecDepth 100000 in
theorem types_no1f (T : Int) (h0 : 0 ≤ T) (h9 : T ≤ 9) (hab : hasAckB T = true) (hsb : serviceB T = false) (hcb : codeB T = false) (t0 : (T == 0) = false) (t1 : (T == 1) = false) (t7 : (T == 7) = false) (t k1 : Int) (x : Bool) (hx : (x = true ∧ false = true) ∨ (x = false ∧ false = (T != 2 && T != 3 && T != 4))) (hX : false = true ∨ T = 2 ∨ T = 3 ∨ T = 4)
    (s a sv c : Nat) (sd : ByteArray) (hk1 : t.tmod 10 = k1) (b1 : -10 < k1) (b2 : k1 < 10) (hT : (k1 + 10).tmod 10 = T) (hs : s < 18446744073709551616) (ha : a < 18446744073709551616) (hv : sv < 4294967296) (hc : c < 256) (hsd : sd.size ≤ maxLen) (w : World) :
    Calls Tryz.prog 16 #[.int .i64 t, .bool x, .int .u64 s, .int .u64 a, .int .u32 sv, .int .u8 c, .string sd] w fun e w' => e = .returned (.bool true) ∧ Below w.heap.size w w' := by
  obtain ⟨S, hS⟩ : ∃ S : Nat, (s : Int) % 16777216 = (S : Int) := ⟨s % 16777216, by omega⟩
  obtain ⟨A0, hA0⟩ : ∃ S : Nat, (a : Int) % 16777216 = (S : Int) := ⟨a % 16777216, by omega⟩
  have hmo : mostN false = 16777216 := rfl
  obtain ⟨d, hd, hdl⟩ : ∃ l, sd.data.toList.take 50 = l ∧ l.length ≤ 50 := ⟨_, rfl, by simp; omega⟩
  have HTX := Lib.hid (fun w => textN_any sd 50 50 d rfl (by omega) hsd hd w)
  obtain ⟨l, G, el, hll, hge, hgo, hgh, hgd, go1, go2, go3, hG⟩ := tyHd_round T false S A0 sv c d h0 h9 hX (by omega) (by omega) hv hc hdl
  have hok := tyHd_ok T false S A0 sv c (by omega) (by omega) hv hc
  have herr := tyHd_err T false S A0 sv c d h0 h9 hX (by omega) (by omega) hc hdl
  obtain ⟨h2, hh2⟩ : ∃ h2, tyHd T false S A0 sv c = h2 := ⟨_, rfl⟩
  have eh2 : h2 = ⟨7, 9, 0, 0, 0, 0, T, false, S, A0, 0, 0, 0, 0, 0⟩ := by
    rw [← hh2]; unfold tyHd; rw [hab, hsb, hcb]; rfl
  rw [hh2] at el hok herr hG
  obtain ⟨sl, hsl⟩ : ∃ b, str l = b := ⟨_, rfl⟩
  obtain ⟨ds, hds⟩ : ∃ b, str d = b := ⟨_, rfl⟩
  have HPUT : Hid (∀ W, Calls Tryz.prog 39 #[Pv h2 (.slice none 0 0) ds] W fun e w' => e = .returned (.tuple #[.string sl, .int .i64 0]) ∧ Below W.heap.size W w') := Lib.hid (fun W => by
    have hp := pktPut_any h2 hok _ [] d W (optsAt_nil W) (by have : maxLen = 140737488355327 ∨ 50 ≤ maxLen := .inr (by unfold maxLen; omega); unfold maxLen; omega)
    unfold PutPk at hp
    rw [herr, el, hsl, hds] at hp
    exact hp)
  have HGET : Hid (∀ W, Calls Tryz.prog 41 #[.string sl] W fun e w' => ∃ p cap, e = .returned (.tuple #[Pv G (.slice p 0 cap) ds, .int .i64 0]) ∧ OptsOwn W.heap.size (.slice p 0 cap) [] W w') := Lib.hid (fun W => by
    have hp := pktGet_yes hll hge hgo W
    rw [hgh, hgd, hsl, hds] at hp
    exact hp)
  rw [hds] at HTX
  have HSZ : Hid (∀ w : World, Calls Tryz.prog 24 #[.int .i64 T, .bool false] w fun e w' => e = .returned (.int .i64 (G.off * 4)) ∧ w = w') := Lib.hid (fun w => by
    have h := size_any T false w
    rw [← go1] at h
    exact h)
  have HHA : Hid (∀ w : World, Calls Tryz.prog 22 #[.int .i64 T] w fun e w' => e = .returned (.bool true) ∧ w = w') := Lib.hid (fun w => by
    have h := hasAck_any T w
    rw [hab] at h
    exact h)
  have HTXT : Hid (∀ w : World, True) := Lib.hid (fun _ => trivial)
  have HG := Lib.hid hG
  have HE2 := Lib.hid eh2
  clear hmo hd hdl el hll hge hgo hgh hgd hok herr hh2 hsl hds go1 hG hab hsb hcb hX eh2 hsd HTXT
  go_enter Tryz.func16, Tryz.ntmps16
  go_upto_region 5 with (go_at_call 18; refine (begun_any _).mono ?_; rintro e w0 ⟨rfl, hb0⟩)
  have HB0 := Lib.hid hb0
  clear hb0
  go_cut [1] (fun u w' => w' = w0 ∧ u = .bool false)
  case first =>
    rcases hx with ⟨rfl, hx2⟩ | ⟨rfl, hx2⟩
    · exact absurd hx2 (by decide)
    · obtain ⟨q2, hq2⟩ : ∃ q, (T != 2) = q := ⟨_, rfl⟩
      obtain ⟨q3, hq3⟩ : ∃ q, (T != 3) = q := ⟨_, rfl⟩
      obtain ⟨q4, hq4⟩ : ∃ q, (T != 4) = q := ⟨_, rfl⟩
      rw [hq2, hq3, hq4] at hx2
      have HX2 := Lib.hid hx2
      clear hx2
      cases q2 <;> cases q3
      all_goals
        go_wp2
        go_meet
        exact ⟨rfl, by first | (rw [HX2.out]; done) | (rw [HX2.out]; rfl)⟩
  case rest =>
    obtain ⟨hw, hu⟩ := hcut
    subst hw
    subst hu
    go_upto_region 10 with (refine store_blk rfl _ _ rfl _ Hd.zero ⟨7, 9, 0, 0, 0, 0, T, false, S, 0, 0, 0, 0, 0, 0⟩ rfl rfl (hd_new _) ?_; intro W2 hc2 hg2)
    have hb2 : Below w.heap.size w W2 := (bel_trans HB0.out (bel_alloc _ _)).grown hg2 (bel_trans HB0.out (bel_alloc _ _)).size (fun k hk => by cases hk; exact HB0.out.size)
    have hCw : w.heap.size ≤ wc.heap.size := HB0.out.size
    obtain ⟨C, hC⟩ : ∃ C, C = wc.heap.size := ⟨_, rfl⟩
    rw [← hC] at hc2 hCw ⊢
    clear hg2 HB0 hC hS
    have d9 : W2.cell? ⟨C, 9, none⟩ = some (.int .u64 0) := hc2.at_.2.2.2.2.2.2.2.2.2.1
    have f9 := hc2.free 9
    have hc3 := hc2.set ⟨7, 9, 0, 0, 0, 0, T, false, S, A0, 0, 0, 0, 0, 0⟩ 9 (.int .u64 (A0 : Int)) rfl
    have hb3 : Below w.heap.size w (W2.setCell ⟨C, 9, none⟩ (.int .u64 (A0 : Int))) := hb2.setCell (p := ⟨C, 9, none⟩) hCw _
    have HCX := Lib.hid hc3; have HBX := Lib.hid hb3
    clear hc2 hb2 hc3 hb3
    go_upto_region 12 with (go_at_call 22; refine (HHA.out _).mono ?_; rintro e w1 ⟨rfl, rfl⟩)
    have hc3 := HCX.out; have hb3 := HBX.out
    clear d9 f9 HCX HBX
    generalize W2.setCell ⟨C, 9, none⟩ (.int .u64 (A0 : Int)) = W3 at *
    have HC3 := Lib.hid hc3
    have HB3 := Lib.hid hb3
    clear hc3 hb3 hA0
    go_upto_region 18 with fail
    have hc4 := HC3.out; have hb4 := HB3.out
    clear HC3 HB3
    generalize W3 = W4 at *
    rw [← HE2.out] at hc4
    have HC4 := Lib.hid hc4; have HB4 := Lib.hid hb4
    clear hc4 hb4 HE2
    go_upto_region 19 with (go_at_call 19; refine (HTX.out _).mono ?_; rintro e w1 ⟨rfl, rfl⟩)
    clear HTX
    go_upto_region 20 with (first
      | (refine build_pk rfl _ _ rfl h2 ds rfl rfl ?_)
      | (refine load_blk rfl _ rfl C rfl _ HC4.out ?_)
      | (go_at_call 39; refine (HPUT.out _).mono ?_; rintro e w5 ⟨rfl, hb5⟩))
    have HC5 := Lib.hid (HC4.out.below hb5)
    have HB5 := Lib.hid (bel_trans HB4.out hb5)
    clear hb5 HC4 HB4 HPUT
    go_upto_region 21 with (first
      | (go_at_call 41; refine (HGET.out _).mono ?_; rintro e w6 ⟨p, cap, rfl, ho6⟩)
      | (refine store_pk rfl _ _ rfl _ Hd.zero G _ _ ds p 0 cap rfl rfl (pk_new_at _ _ rfl) ?_; intro W7 hp7 hg7))
    have hb6 := bel_trans HB5.out ho6.2.1
    have hc6 := HC5.out.below ho6.2.1
    have hb7 : Below w.heap.size w W7 := (bel_trans hb6 (bel_alloc _ _)).grown hg7 (bel_trans hb6 (bel_alloc _ _)).size (fun k hk => by cases hk; exact hb6.size)
    have hlt6 := hc6.lt
    have hc7 := (hc6.below (bel_alloc w6 _)).other hg7 (by simp; omega)
    have hCne : C ≠ w6.heap.size := by omega
    have hw6 : w.heap.size ≤ w6.heap.size := hb6.size
    obtain ⟨D, hD⟩ : ∃ D, D = w6.heap.size := ⟨_, rfl⟩
    rw [← hD] at hp7 hCne hw6 ⊢
    have c15 := hp7.cells.1
    have c16 := hp7.cells.2
    have c2 := hp7.range 2 (.int .i64 G.off) rfl
    rw [Nat.zero_add] at c2
    have HP7 := Lib.hid hp7; have HB7 := Lib.hid hb7; have HC7 := Lib.hid hc7
    clear hp7 hb7 hc7 hb6 hc6 hg7 ho6 HB5 HC5 HGET hlt6 hD
    have hne : (4 * G.off != G.off * 4) = false := by rw [bne_eq_false_iff_eq]; omega
    go_quiet ((go_at_call 24; exact Calls.quiet_of_same ((HSZ.out _).mono fun e w' hh => ⟨hh.1, hh.2.symm⟩)))
    have hp8 := HP7.out.below (bel_drewN W7 nq)
    have hc8 := HC7.out.below (bel_drewN W7 nq)
    have hb8 := bel_trans HB7.out (bel_drewN W7 nq)
    clear HP7 HC7 HB7 c15 c16 c2 hne
    generalize W7.drewN nq = W8 at *
    have e2 := hp8.range 2 (.int .i64 G.off) rfl
    have e5 := hp8.range 5 (.int .i64 G.sum) rfl
    rw [Nat.zero_add] at e2 e5
    have f2 := frozen_of_row W8 D 2 _ _ hp8
    have f5 := frozen_of_row W8 D 5 _ _ hp8
    have hp9 := (hp8.set { G with off := 0 } 2 (.int .i64 0) rfl).set { G with off := 0, sum := 0 } 5 (.int .i64 0) rfl
    have hc9 := (hc8.other (grown_set W8 D 2 (.int .i64 0)) (by simp; exact hCne)).other (grown_set _ D 5 (.int .i64 0)) (by simp; exact hCne)
    have hb9 := (hb8.setCell (p := ⟨D, 2, none⟩) hw6 (.int .i64 0)).setCell (p := ⟨D, 5, none⟩) hw6 (.int .i64 0)
    rw [HG.out] at hp9
    have HP9 := Lib.hid hp9; have HC9 := Lib.hid hc9; have HB9 := Lib.hid hb9
    clear hp8 hc8 hb8 hp9 hc9 hb9
    go_upto_region 24 with fail
    clear e2 e5 f2 f5
    generalize ((W8.setCell ⟨D, 2, none⟩ (.int .i64 0)).setCell ⟨D, 5, none⟩ (.int .i64 0)) = W9 at *
    have hez : ∀ w : World, (binOp .eql 26 h2.val h2.val).run Tryz.prog w = .ok (.bool true) w := fun w => by
      have := eqlHd h2 h2 w
      rw [(Hd.eqB_iff h2 h2).2 rfl] at this
      exact this
    have hgz := fun op x y w => guardHd2 op x y h2 h2 w
    go_wp2_with (first
      | (refine load_blk rfl _ rfl C rfl _ HC9.out ?_)
      | (refine load_mid rfl _ rfl D rfl _ _ _ HP9.out ?_))
    go_ret
    exact ⟨rfl, HB9.out⟩

theorem pktTypes_walk (t : Int) (x : Bool) (s a sv c : Nat) (sd : ByteArray) (hs : s < 18446744073709551616) (ha : a < 18446744073709551616) (hv : sv < 4294967296) (hc : c < 256) (hsd : sd.size ≤ maxLen) (w : World) :
    Calls Tryz.prog 16 #[.int .i64 t, .bool x, .int .u64 s, .int .u64 a, .int .u32 sv, .int .u8 c, .string sd] w fun e w' => e = .returned (.bool true) ∧ Below w.heap.size w w' := by
  obtain ⟨b1, b2⟩ := tmod_lim t 10 (by omega)
  obtain ⟨k1, hk1⟩ : ∃ k, t.tmod 10 = k := ⟨_, rfl⟩
  rw [hk1] at b1 b2
  have hT0 : (k1 + 10).tmod 10 = (k1 + 10) % 10 := Int.tmod_eq_emod_of_nonneg (by omega)
  obtain ⟨T, hT⟩ : ∃ T, (k1 + 10).tmod 10 = T := ⟨_, rfl⟩
  have h0 : 0 ≤ T ∧ T ≤ 9 := by omega
  clear hT0
  rcases type_cases T with h' | h' | rfl | rfl | rfl | rfl | rfl | rfl | rfl | rfl | rfl | rfl
  · omega
  · omega
  · exact types_sv0 _ (by decide) (by decide) (by decide) (by decide) (by decide) (by decide) t k1 x (by cases x; exact .inr ⟨rfl, by decide⟩; exact .inl ⟨rfl, rfl⟩) (.inl rfl) s a sv c sd hk1 b1 b2 hT hs ha hv hc hsd w
  · exact types_sv1 _ (by decide) (by decide) (by decide) (by decide) (by decide) (by decide) (by decide) t k1 x (by cases x; exact .inr ⟨rfl, by decide⟩; exact .inl ⟨rfl, rfl⟩) (.inl rfl) s a sv c sd hk1 b1 b2 hT hs ha hv hc hsd w
  · cases x
    · exact types_no0f _ (by decide) (by decide) (by decide) (by decide) (by decide) (by decide) (by decide) (by decide) t k1 false (.inr ⟨rfl, by decide⟩) (by decide) s a sv c sd hk1 b1 b2 hT hs ha hv hc hsd w
    · exact types_no0t _ (by decide) (by decide) (by decide) (by decide) (by decide) (by decide) (by decide) (by decide) t k1 true (.inl ⟨rfl, rfl⟩) (.inl rfl) s a sv c sd hk1 b1 b2 hT hs ha hv hc hsd w
  · cases x
    · exact types_no1f _ (by decide) (by decide) (by decide) (by decide) (by decide) (by decide) (by decide) (by decide) t k1 false (.inr ⟨rfl, by decide⟩) (by decide) s a sv c sd hk1 b1 b2 hT hs ha hv hc hsd w
    · exact types_no1t _ (by decide) (by decide) (by decide) (by decide) (by decide) (by decide) (by decide) (by decide) t k1 true (.inl ⟨rfl, rfl⟩) (.inl rfl) s a sv c sd hk1 b1 b2 hT hs ha hv hc hsd w
  · cases x
    · exact types_no1f _ (by decide) (by decide) (by decide) (by decide) (by decide) (by decide) (by decide) (by decide) t k1 false (.inr ⟨rfl, by decide⟩) (by decide) s a sv c sd hk1 b1 b2 hT hs ha hv hc hsd w
    · exact types_no1t _ (by decide) (by decide) (by decide) (by decide) (by decide) (by decide) (by decide) (by decide) t k1 true (.inl ⟨rfl, rfl⟩) (.inl rfl) s a sv c sd hk1 b1 b2 hT hs ha hv hc hsd w
  · exact types_no1t _ (by decide) (by decide) (by decide) (by decide) (by decide) (by decide) (by decide) (by decide) t k1 x (by cases x; exact .inr ⟨rfl, by decide⟩; exact .inl ⟨rfl, rfl⟩) (.inl rfl) s a sv c sd hk1 b1 b2 hT hs ha hv hc hsd w
  · exact types_no1t _ (by decide) (by decide) (by decide) (by decide) (by decide) (by decide) (by decide) (by decide) t k1 x (by cases x; exact .inr ⟨rfl, by decide⟩; exact .inl ⟨rfl, rfl⟩) (.inl rfl) s a sv c sd hk1 b1 b2 hT hs ha hv hc hsd w
  · exact types_code _ (by decide) (by decide) (by decide) (by decide) (by decide) (by decide) (by decide) (by decide) t k1 x (by cases x; exact .inr ⟨rfl, by decide⟩; exact .inl ⟨rfl, rfl⟩) (.inl rfl) s a sv c sd hk1 b1 b2 hT hs ha hv hc hsd w
  · exact types_no1t _ (by decide) (by decide) (by decide) (by decide) (by decide) (by decide) (by decide) (by decide) t k1 x (by cases x; exact .inr ⟨rfl, by decide⟩; exact .inl ⟨rfl, rfl⟩) (.inl rfl) s a sv c sd hk1 b1 b2 hT hs ha hv hc hsd w
  · exact types_no1t _ (by decide) (by decide) (by decide) (by decide) (by decide) (by decide) (by decide) (by decide) t k1 x (by cases x; exact .inr ⟨rfl, by decide⟩; exact .inl ⟨rfl, rfl⟩) (.inl rfl) s a sv c sd hk1 b1 b2 hT hs ha hv hc hsd w
end Go.Proofs.YtmekkmbldnbaiaaGreatDoor
