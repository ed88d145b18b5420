/-
  The law PktAny, walked.
-/
import Derived.Test.YtcdhllajdpalaaaGreatDoorWrongA
import Derived.Test.YtcdhllajdpalaaaGreatDoorPktEqB
import Derived.Test.YtcdhllajdpalaaaGreatDoorPktMath
import Derived.Test.YtcdhllajdpalaaaGreatDoorRowC
import Derived.Test.YtcdhllajdpalaaaGreatDoorLawSum
namespace Go.Proofs.YtcdhllajdpalaaaGreatDoor
open Go.ChangeShapes Go.WideShapes Go.ChangeAt Go.RowKit
set_option linter.unusedVariables false
set_option linter.unusedSimpArgs false

/-- A whole packet loaded, guarded or not. -/
theorem load_pk_w {ops : Array Oper} {rest : List Oper} {o : Oper} {a : Act} {w : World} {Q : Exit → Act → World → Prop} (hgd : Region.wanted o (yielded ops a.tmps) = true) (x : Operand) (ho : o.op = .load 40 x)
    (C : Nat) (hx : a.eval x = .pointer (some ⟨C, 0, none⟩)) (h : Hd) (v : Value) (s : ByteArray) (hb : PkBlk h v s C w)
    (hh : wpList Tryz.prog ops Q rest (a.put o.dst (Pv h v s)) w) : wpList Tryz.prog ops Q (o :: rest) a w :=
  BigFrame.wpList_want hgd fun _ hK => wp_load_row 40 x ho C hx 40 (pkCells h v s) (0, 0) _ hb Tryz.underlying40 rfl infoPk (hK _ _ hh)
theorem opts_nilP (W : World) : OptsAt W (.slice none 0 0) [] := ⟨.inl ⟨rfl, none, 0, rfl⟩, by simp, by simp⟩
theorem xor_u8 (a j : Nat) (ha : a < 256) (hj : j < 256) : bits .xor .u8 (a : Int) (j : Int) = ((a ^^^ j : Nat) : Int) ∧ (a ^^^ j) < 256 ∧ (0 < j → a ^^^ j ≠ a) := by
  have hx : a ^^^ j < 2 ^ 8 := Nat.xor_lt_two_pow ha hj
  refine ⟨?_, hx, fun h e => ?_⟩
  · show IntKind.u8.wrap ((BitVec.ofInt 8 (a : Int) ^^^ BitVec.ofInt 8 (j : Int)).toNat : Int) = _
    have h1 : ∀ x : Nat, x < 256 → (BitVec.ofInt 8 (x : Int)).toNat = x := fun x hx => by
      rw [BitVec.ofInt_natCast, BitVec.toNat_ofNat]; exact Nat.mod_eq_of_lt (by omega)
    rw [BitVec.toNat_xor, h1 a ha, h1 j hj, IntKind.wrap_u8]
    omega
  · have : j = 0 := by
      have h2 : a ^^^ (a ^^^ j) = a ^^^ a := by rw [e]
      rw [← Nat.xor_assoc, Nat.xor_self, Nat.zero_xor] at h2
      exact h2
    omega
theorem slice_fromA (l : List UInt8) (u : Nat) (h2 : u ≤ l.length) (W : World) :
    (Instr.slice 9 (.string (str l)) (some (.int .i64 (u : Int))) none none).run Tryz.prog W = .ok (.string (str (l.drop u))) W := by
  have e := str_extract l u l.length
  rw [List.take_length] at e
  rw [← e]
  go_simp
  rw [if_pos (by rw [str_size]; omega), str_size, e]

set_option maxHeartbeats 8000000 in
set_option maxRecDepth 100000 in
theorem pktAny_walk (s0 : ByteArray) (hs0 : s0.size ≤ maxLen) (h : Hd) (hok : h.ok) (va : Option Addr) (vc : Nat) (os : List M.Opt) (d : List UInt8) (at_ : Int) (h1 : -9223372036854775808 ≤ at_) (h2 : at_ ≤ 9223372036854775807) (x : Nat) (hx : x < 256) (w : World) (hos : OptsAt w (.slice va os.length vc) os) (hd : d.length ≤ 1048576) (hol : os.length ≤ 1048576) :
    Calls Tryz.prog 4 #[.string s0, Pv h (.slice va os.length vc) (str d), .int .i64 at_, .int .u8 (x : Int)] w fun e w' => e = .returned (.bool true) ∧ Below w.heap.size w w' := by
  obtain ⟨D, hDD⟩ : ∃ D, str d = D := ⟨_, rfl⟩
  rw [hDD]
  have HPUT : Hid (∀ W, Below w.heap.size w W → Calls Tryz.prog 17 #[Pv h (.slice va os.length vc) D] W fun e w' => e = .returned (.tuple #[.string (str (putText h os d)), .int .i64 (putErr h os d : Nat)]) ∧ Below W.heap.size W w') := Lib.hid (fun W hb => by
    have hp := pktPut_any h hok _ os d W (hos.below hb) (by unfold maxLen; omega)
    rw [hDD] at hp
    exact hp)
  have HBOX := Lib.hid (PkBlk.new h (.slice va os.length vc) D w)
  have hbx : PkBox h (.slice va os.length vc) D = .cells #[.int .i64 h.src, .int .i64 h.dst, .int .i64 h.off, .int .i64 h.cc, .int .i64 h.cs, .int .i64 h.sum, .int .i64 h.type, .bool h.x, .int .u64 h.seq, .int .u64 h.ack, .int .u32 h.service, .int .i64 h.code, .int .u8 h.i0, .int .u8 h.i1, .int .u8 h.i2, .slice va os.length vc, .string D] 40 := rfl
  have HB0 := Lib.hid (bel_alloc w (PkBox h (.slice va os.length vc) D))
  rw [hbx] at HBOX HB0
  obtain ⟨l, hl⟩ : ∃ l, putText h os d = l := ⟨_, rfl⟩
  obtain ⟨n, hn⟩ : ∃ n, putErr h os d = n := ⟨_, rfl⟩
  have hll : l.length ≤ 2500 := by
    rw [← hl]
    unfold putText
    by_cases hz : putErr h os d = 0
    · rw [if_pos hz]
      have R := pk_round h os d hok hz
      rw [R.len]
      have := R.small
      omega
    · rw [if_neg hz]; simp
  rw [hl, hn] at HPUT
  obtain ⟨lb, hlb⟩ : ∃ l, s0.data.toList.take 2600 = l := ⟨_, rfl⟩
  have hlbl : lb.length ≤ 2600 := by rw [← hlb, List.length_take]; omega
  have HT := Lib.hid (fun W => textN_any s0 2600 2600 lb rfl (by omega) hs0 hlb W)
  have HLB := Lib.hid hlbl
  obtain ⟨b0, hb0⟩ : ∃ b, str lb = b := ⟨_, rfl⟩
  rw [hb0] at HT
  have HB0E := Lib.hid hb0
  clear hbx hos hDD hl hn hok hlb hlbl hb0 hd
  unfold Pv
  go_enter Tryz.func4, Tryz.ntmps4
  go_upto_region 5 with (first
    | (go_at_call 5; refine (begun_any _).mono ?_; rintro e w0 ⟨rfl, hb1⟩)
    | (go_at_call 6; (with_reducible refine (HT.out _).mono ?_); rintro e w1 ⟨rfl, rfl⟩))
  have hbox := HBOX.out.below hb1
  have HB1 := Lib.hid (bel_trans HB0.out hb1)
  obtain ⟨B, hB⟩ : ∃ B, B = w.heap.size := ⟨_, rfl⟩
  rw [← hB] at hbox ⊢
  have HBX := Lib.hid hbox
  clear hB hb1 hbox HBOX HB0 HT
  go_upto_region 6 with (first
    | (refine load_pk rfl _ rfl B rfl h _ D HBX.out ?_)
    | (go_at_call 17; refine (HPUT.out _ HB1.out).mono ?_; rintro e W2 ⟨rfl, hb2⟩))
  have HB2 := Lib.hid (bel_trans HB1.out hb2)
  clear hb2 HBX HB1 HPUT
  obtain ⟨q0, hq0⟩ : ∃ q, str l = q := ⟨_, rfl⟩
  obtain ⟨dd, hdd⟩ : ∃ d : Int, (l.length : Int) = d := ⟨_, rfl⟩
  have hbs : (q0.size : Int) = dd := by rw [← hq0, ← hdd]; rfl
  rw [hq0]
  have HQ0 := Lib.hid hq0
  have HDD := Lib.hid hdd
  clear hq0 hdd
  go_upto_if 34 with fail
  go_cut [10] (fun v wx => ∃ l2 : List UInt8, v = .string (str l2) ∧ l2.length ≤ 2500 ∧ Below w.heap.size w wx)
  case first =>
    by_cases hl0 : 0 < l.length
    · have hq0 := HQ0.out
      have hdd := HDD.out
      obtain ⟨m1, m2⟩ := tmod_lim at_ dd (by omega)
      obtain ⟨k1, hk1⟩ : ∃ k, at_.tmod dd = k := ⟨_, rfl⟩
      rw [hk1] at m1 m2
      have m5 : 0 ≤ (k1 + dd).tmod dd := Int.tmod_nonneg _ (by omega)
      obtain ⟨m3, m4⟩ := tmod_lim (k1 + dd) dd (by omega)
      obtain ⟨p, hp⟩ : ∃ p : Nat, (k1 + dd).tmod dd = (p : Int) := ⟨((k1 + dd).tmod dd).toNat, by omega⟩
      have hpl : p < l.length := by omega
      obtain ⟨fx, fl, _⟩ := xor_u8 (l.getD p 0).toNat x (l.getD p 0).toNat_lt hx
      obtain ⟨b, hb⟩ : ∃ b : UInt8, b.toNat = (l.getD p 0).toNat ^^^ x := ⟨UInt8.ofNat ((l.getD p 0).toNat ^^^ x), by rw [UInt8.toNat_ofNat']; exact Nat.mod_eq_of_lt fl⟩
      rw [← hb] at fx
      have hbyte : l[p] = l.getD p 0 := by rw [List.getD_eq_getElem?_getD, List.getElem?_eq_getElem hpl]; rfl
      have hlen2 : (l.set p b).length = l.length := by simp
      have HBRC := Lib.hid (fun (W : World) (g : Nat) (h : BRow W g l) => (show W.cell? ⟨g, p, none⟩ = some (.int .u8 (l.getD p 0).toNat) by rw [h.cell p hpl, hbyte]; rfl))
      have HBRF := Lib.hid (fun (W : World) (g : Nat) (h : BRow W g l) => h.free p hpl)
      have HBRS := Lib.hid (fun (W : World) (g : Nat) (h : BRow W g l) => h.set p b (b.toNat : Int) rfl)
      have HCV : Hid (∀ (W : World) (g cap : Nat), BRow W g (l.set p b) → (convert 36 9 (.slice (some ⟨g, 0, none⟩) l.length cap)).run Tryz.prog W = .ok (.string (str (l.set p b))) W) := Lib.hid (fun W g cap h => by have e := h.conv cap; rwa [hlen2] at e)
      have HL2 : Hid ((l.set p b).length ≤ 2500) := Lib.hid (by rw [hlen2]; exact hll)
      obtain ⟨cap, o, hcv, hrow⟩ := conv_row W2 l
      have hdz : (dd == 0) = false := by rw [beq_eq_false_iff_ne]; omega
      have hgt : decide ((0 : Int) < dd) = true := decide_eq_true (by omega)
      rw [hq0] at hcv
      have HX := Lib.hid fx
      generalize (l.getD p 0).toNat = c at *
      obtain ⟨N, hN⟩ : ∃ N, l.length = N := ⟨_, rfl⟩
      rw [hN] at hdd hpl hcv hll hl0 HCV
      have hqs : q0.size ≤ 2500 := by omega
      have hz := HX.out
      have hb9 : Below w.heap.size w (W2.drew.alloc o) := bel_trans HB2.out (bel_trans (bel_drewN W2 1) (bel_alloc _ _))
      have hg9 : w.heap.size ≤ W2.heap.size := HB2.out.size
      clear hb hbyte hlen2 hq0 fx fl hN hl0 HB0E HQ0 HDD
      go_upto_region 8 with fail
      have hrow2 : BRow (W2.alloc o).drew W2.heap.size l := hrow.same rfl
      have hb92 : Below w.heap.size w (W2.alloc o).drew := bel_trans HB2.out (bel_trans (bel_alloc W2 o) (bel_drewN _ 1))
      clear hcv hrow hb9
      generalize W2.heap.size = g at *
      generalize (W2.alloc o).drew = W9 at *
      have hlt := hrow2.lt
      have c9 := HBRC.out W9 g hrow2
      have f9 := HBRF.out W9 g hrow2
      have HB9 := Lib.hid hb92
      have HRW := Lib.hid hrow2
      clear hb92 hrow2
      go_upto_region 9 with fail
      have hb10 : Below w.heap.size w (W9.setCell ⟨g, p, none⟩ (.int .u8 (b.toNat : Int))) := HB9.out.setCell (p := ⟨g, p, none⟩) hg9 _
      have hr10 : BRow (W9.setCell ⟨g, p, none⟩ (.int .u8 (b.toNat : Int))) g (l.set p b) := HBRS.out W9 g HRW.out
      clear c9 f9 hlt
      generalize W9.setCell ⟨g, p, none⟩ (.int .u8 (b.toNat : Int)) = WA at *
      have cv0 := HCV.out WA g cap hr10
      have HBA := Lib.hid hb10
      clear hb10 hr10 hz
      go_wp2
      go_meet
      exact ⟨_, rfl, HL2.out, HBA.out⟩
    · have hl00 : l = [] := List.eq_nil_of_length_eq_zero (by omega)
      subst hl00
      have hz : dd = 0 := by rw [← HDD.out]; rfl
      subst hz
      clear hl0
      go_wp2
      go_meet
      exact ⟨[], by rw [HQ0.out], by simp, HB2.out⟩
  case rest =>
    obtain ⟨l2, rfl, hl2, hbc⟩ := hcut
    obtain ⟨b2, hb2⟩ : ∃ b, str l2 = b := ⟨_, rfl⟩
    rw [hb2]
    have hA : Hid (∃ A, A = wc.heap.size ∧ (∀ k, k < 2 → ∃ l3 : List UInt8, l3.length ≤ 2600 ∧ (wc.alloc (Obj.cells #[Value.string b0, Value.string b2] 9)).cell? ⟨A, k, none⟩ = some (.string (str l3))) ∧ A < (wc.alloc (Obj.cells #[Value.string b0, Value.string b2] 9)).heap.size ∧ Below w.heap.size w (wc.alloc (Obj.cells #[Value.string b0, Value.string b2] 9))) := Lib.hid (by
      refine ⟨_, rfl, fun k hk => ?_, by simp, bel_trans hbc (bel_alloc _ _)⟩
      rw [cell_of_row _ _ _ _ _ _ (heap_alloc_new wc _)]
      rcases k with _ | _ | k
      · exact ⟨lb, HLB.out, by rw [HB0E.out]; rfl⟩
      · exact ⟨l2, by omega, by rw [hb2]; rfl⟩
      · omega)
    clear hl2 hbc hb2 HB2 HQ0 HDD hbs hll hx h1 h2 HLB HB0E hol
    go_wp2
    obtain ⟨A, hAe, hcl, hAl, hbA⟩ := hA.out
    clear hA
    rw [← hAe]
    generalize wc.alloc (Obj.cells #[Value.string b0, Value.string b2] 9) = W6 at *
    have HCL := Lib.hid hcl
    have HAL := Lib.hid hAl
    have HBA := Lib.hid hbA
    clear hAe hcl hAl hbA
    go_loopw [59] (fun i wr => ∃ k : Nat, i = .int .i64 (k : Int) ∧ k ≤ 2 ∧ Hid (Below W6.heap.size W6 wr)) (fun i _ => 2 - (intOf i).toNat)
    case atStart => exact ⟨0, rfl, by omega, Lib.hid (Below.refl _ _)⟩
    case round =>
      obtain ⟨k, rfl, hk, hbr⟩ := hrel
      by_cases hk2 : k < 2
      · obtain ⟨l3, hl3, hc3⟩ := HCL.out k hk2
        have HWR : Hid (Below w.heap.size w wr) := Lib.hid (bel_trans HBA.out hbr.out)
        rw [← hbr.out.cell (p := ⟨A, k, none⟩) HAL.out] at hc3
        have HWG := Lib.hid (fun W => wrong_any l3 (by omega) W)
        obtain ⟨E, hE⟩ : ∃ E, getErr l3 = E := ⟨_, rfl⟩
        rw [hE] at HWG
        obtain ⟨s, hs⟩ : ∃ s, str l3 = s := ⟨_, rfl⟩
        rw [hs] at HWG hc3
        by_cases hE0 : E = 0
        · subst hE0
          have hl25 : ¬ 2500 < l3.length := by
            intro h; unfold getErr at hE; rw [if_pos h] at hE; cases hE
          have hf : faultN l3 = 0 := by
            by_cases hf : faultN l3 = 0
            · exact hf
            · unfold getErr at hE; rw [if_neg hl25, if_pos hf] at hE; exact absurd hE hf
          have hos : ∃ os2, getOs l3 = some os2 := by
            have hE2 := hE
            rw [getErr_head l3 hl25 hf] at hE2
            cases ho : getOs l3 with
            | some os2 => exact ⟨os2, rfl⟩
            | none =>
              exfalso
              rw [ho, if_pos rfl] at hE2
              revert hE2
              (repeat' split) <;> (intro h; cases h)
          obtain ⟨os2, hos2⟩ := hos
          obtain ⟨hl12, hz0, hzo, hol3, ht9⟩ := fault_facts hf
          obtain ⟨g1, g2, g3, g4⟩ := getHd_off hl12
          have hb4 := byteAt_lt l3 4
          have hob := getOpts_bound (l := (l3.take (getOff l3)).drop (getSize l3)) hos2
          have hoL : os2.length ≤ 2500 := by have := hob.1; rw [List.length_drop, List.length_take] at this; omega
          have hoD : ∀ o ∈ os2, o.d.length ≤ maxLen := fun o ho => by have := hob.2 o ho; unfold maxLen; omega
          have hoff4 : 4 * (getHd l3).off = ((getOff l3 : Nat) : Int) := by rw [g1]; unfold getOff; omega
          have hso : getSize l3 ≤ getOff l3 := by unfold getSize; rw [g3, g4]; exact hzo
          have HSLI : Hid (∀ W, (Instr.slice 9 (.string s) (some (.int .i64 ((getSize l3 : Nat) : Int))) (some (.int .i64 ((getOff l3 : Nat) : Int))) none).run Tryz.prog W = .ok (.string (str ((l3.take (getOff l3)).drop (getSize l3)))) W) := Lib.hid (fun W => by rw [← hs]; exact slice2h l3 _ _ hso hol3 W)
          have hsfr : ∀ W, (Instr.slice 9 (.string s) (some (.int .i64 ((getOff l3 : Nat) : Int))) none none).run Tryz.prog W = .ok (.string (str (l3.drop (getOff l3)))) W := fun W => by rw [← hs]; exact slice_fromA l3 _ hol3 W
          have HGO0 : Hid (∀ W, Calls Tryz.prog 21 #[.string (str ((l3.take (getOff l3)).drop (getSize l3)))] W (GetOut W (getOs l3))) := Lib.hid (fun W => refGetOpts_any _ (by rw [List.length_drop, List.length_take]; omega) W)
          have HGT0 := Lib.hid (fun W => pktGet_yes (by omega) hE hos2 W)
          have HRG0 := Lib.hid (fun W => refGet_uniW l3 (by omega) W)
          rw [show gotHdW l3 = getHd l3 by unfold gotHdW; rw [if_pos hf], hf, hs] at HRG0
          rw [hs] at HGT0
          rw [hos2] at HGO0
          have HSZ : Hid (∀ W, Calls Tryz.prog 12 #[.int .i64 (getHd l3).type, .bool (getHd l3).x] W fun e w' => e = .returned (.int .i64 (getSize l3 : Nat)) ∧ W = w') := Lib.hid (fun W => refSize_any (getHd l3).type (getHd l3).x W)
          have hyo : 0 ≤ (getHd l3).off ∧ (getHd l3).off ≤ 255 := by rw [g1]; omega
          have hofb : getOff l3 ≤ 2500 := by omega
          obtain ⟨DQ, hDQ⟩ : ∃ D, str (l3.drop (getOff l3)) = D := ⟨_, rfl⟩
          obtain ⟨F, hF⟩ : ∃ D, str ((l3.take (getOff l3)).drop (getSize l3)) = D := ⟨_, rfl⟩
          rw [hDQ] at hsfr HGT0
          rw [hF] at HSLI HGO0
          have hssz : s.size ≤ 2500 := by rw [← hs, str_size]; omega
          generalize getHd l3 = g at *
          generalize getOff l3 = OF at *
          generalize getSize l3 = S at *
          have HOL := Lib.hid hoL; have HOD := Lib.hid hoD
          have HGT : Hid (∀ W, Calls Tryz.prog 18 #[.string s] W fun e w' => ∃ p cap, e = .returned (.tuple #[Pv g (.slice p os2.length cap) DQ, .int .i64 0]) ∧ OptsAt w' (.slice p os2.length cap) os2 ∧ Below W.heap.size W w') := Lib.hid (fun W => (HGT0.out W).mono fun e w' ⟨p, cap, h1, h2⟩ => ⟨p, cap, h1, h2.at (by have := HOL.out; omega) HOD.out, h2.2.1⟩)
          have HRG : Hid (∀ W, Calls Tryz.prog 14 #[.string s] W fun e w' => e = .returned (.tuple #[g.val, .int .i64 0]) ∧ Below W.heap.size W w') := HRG0
          have HWG : Hid (∀ W, Calls Tryz.prog 19 #[.string s] W fun e w' => e = .returned (.int .i64 0) ∧ Below W.heap.size W w') := HWG
          obtain ⟨E, hEE⟩ : ∃ E : Int, (0 : Int) = E := ⟨_, rfl⟩
          obtain ⟨R, hR⟩ : ∃ R : Value → World → Prop, (fun u W => OptsAt W u os2) = R := ⟨_, rfl⟩
          have HR : Hid (∀ u x y, R u x → Below x.heap.size x y → R u y) := Lib.hid (by rw [← hR]; exact fun _ _ _ h hb => OptsAt.below h hb)
          have HGO : Hid (∀ W, Calls Tryz.prog 21 #[.string F] W fun e w' => Below W.heap.size W w' ∧ ∃ u, e = .returned (.tuple #[u, .int .i64 E]) ∧ R u w') := Lib.hid (fun W => (HGO0.out W).mono fun e w' hh => by
            obtain ⟨v, e1, ho⟩ := hh.2
            exact ⟨hh.1, v, by rw [e1, ← hEE], by rw [← hR]; exact ho.at (by have := HOL.out; omega) HOD.out⟩)
          have HO4 := Lib.hid hoff4
          have HOB : Hid (OF < 9223372036854775808) := Lib.hid (by omega)
          have HRE := Lib.hid hR
          have HSFR := Lib.hid hsfr
          have HHY := Lib.hid hyo
          clear hE hl25 hf hos2 hl12 hz0 hzo hol3 ht9 g1 g2 g3 g4 hb4 hob hoL hoD hoff4 hso hsfr HGO0 HGT0 HRG0 hDQ hF hs hl3 hEE hR hyo
          go_upto_region 14 with (first
            | (go_at_call 18; refine (HGT.out _).mono ?_; rintro e W7 ⟨pp, cap, rfl, hoq, hb7⟩)
            | (refine store_pk rfl _ _ rfl _ Hd.zero g _ _ DQ pp os2.length cap rfl rfl (pk_new_at _ _ rfl) ?_; intro W8 hp8 hg8))
          have hb8 : Below wr.heap.size wr W8 := (bel_trans hb7 (bel_alloc _ _)).grown hg8 (bel_trans hb7 (bel_alloc _ _)).size (fun k hk => by cases hk; exact hb7.size)
          have ho8 : OptsAt W8 (.slice pp os2.length cap) os2 := hoq.below ((bel_alloc W7 pk0).grown hg8 (by simp) (fun k hk => by cases hk; exact Nat.le_refl _))
          obtain ⟨K, hK⟩ : ∃ K, K = W7.heap.size := ⟨_, rfl⟩
          rw [← hK] at hp8 ⊢
          have HP8 := Lib.hid hp8; have HB8 := Lib.hid hb8; have HO8 := Lib.hid ho8
          clear hb7 hg8 hp8 hb8 hK hc3 HGT hoq ho8
          go_upto_region 15 with (go_at_call 19; (with_reducible refine (HWG.out _).mono ?_); rintro e W9 ⟨rfl, hb9⟩)
          have HP9 := Lib.hid (HP8.out.below hb9); have HB9 := Lib.hid (bel_trans HB8.out hb9); have HO9 := Lib.hid (HO8.out.below hb9)
          clear hb9 HP8 HB8 HO8 HWG
          go_upto_region 19 with (first
            | (go_at_call 14; refine (HRG.out _).mono ?_; rintro e W10 ⟨rfl, hb10⟩)
            | (refine store_blk rfl _ _ rfl _ Hd.zero g rfl rfl (hd_new _) ?_; intro W11 hc11 hg11))
          have hb11 : Below W9.heap.size W9 W11 := (bel_trans hb10 (bel_alloc _ _)).grown hg11 (bel_trans hb10 (bel_alloc _ _)).size (fun k hk => by cases hk; exact hb10.size)
          obtain ⟨C, hC⟩ : ∃ C, C = W10.heap.size := ⟨_, rfl⟩
          rw [← hC] at hc11 ⊢
          have HHB := Lib.hid hc11
          have HP11 := Lib.hid (HP9.out.below hb11); have HB11 := Lib.hid (bel_trans HB9.out hb11); have HO11 := Lib.hid (HO9.out.below hb11)
          clear hb10 hg11 hc11 hb11 hC HP9 HB9 HO9 HRG
          refine Rg.regionR (by kernel_rfl) [91, 92, 93, 94, 95, 96, 97, 98, 99, 100, 101, 90, 102, 103, 20, 21] (woK s C g S OF F E R true) (fun x y => Below x.heap.size x y) (by kernel_rfl) (Below.refl _ _) (fun _ _ _ h k => bel_trans h k) (woK_keep s C g S OF F E R true HR.out) ⟨?_, ?_, ?_, ?_, ?_, ?_, ?_, ?_, ?_, ?_, ?_, ?_, ?_, ?_, ?_, ?_, trivial⟩ ?_
          · intro a W hsl hs hd K1 hk
            exact Rg.val hk rfl (ex_move _ W _ _ _ rfl ((hsl 14 (by decide)).trans rfl)) (Below.refl _ _) rfl
          · intro a W hsl hs hd K1 hk
            exact Rg.val hk rfl (ex_fieldX _ W _ _ C 6 (by decide) rfl ((hsl 18 (by decide)).trans rfl)) (Below.refl _ _) rfl
          · intro a W hsl hs hd K1 hk
            have e0 : a.eval (.tmp 92) = .pointer (some ⟨C, 6, none⟩) := hd ⟨1, .data⟩ (by simp) rfl
            exact Rg.val hk rfl (ex_load _ W _ C 6 _ _ (.int .i64 g.type) rfl (.inl rfl) e0 (((HHB.out.drew).below hs).cell 6 (.int .i64 g.type) rfl)) (Below.refl _ _) rfl
          · intro a W hsl hs hd K1 hk
            exact Rg.val hk rfl (ex_fieldX _ W _ _ C 7 (by decide) rfl ((hsl 18 (by decide)).trans rfl)) (Below.refl _ _) rfl
          · intro a W hsl hs hd K1 hk
            have e0 : a.eval (.tmp 94) = .pointer (some ⟨C, 7, none⟩) := hd ⟨3, .data⟩ (by simp) rfl
            exact Rg.val hk rfl (ex_load _ W _ C 7 _ _ (.bool g.x) rfl (.inr (.inl rfl)) e0 (((HHB.out.drew).below hs).cell 7 (.bool g.x) rfl)) (Below.refl _ _) rfl
          · intro a W hsl hs hd K1 hk
            have e0 : a.eval (.tmp 93) = .int .i64 g.type := hd ⟨2, .data⟩ (by simp) rfl
            have e1 : a.eval (.tmp 95) = .bool g.x := hd ⟨4, .data⟩ (by simp) rfl
            refine Rg.call hk rfl (ex_refSize _ W _ _ _ _ _ _ rfl e0 e1 rfl) ((HSZ.out W).mono ?_)
            rintro e w5 ⟨rfl, rfl⟩
            exact ⟨_, rfl, Below.refl _ _, rfl⟩
          · intro a W hsl hs hd K1 hk
            exact Rg.val hk rfl (ex_fieldX _ W _ _ C 2 (by decide) rfl ((hsl 18 (by decide)).trans rfl)) (Below.refl _ _) rfl
          · intro a W hsl hs hd K1 hk
            have e0 : a.eval (.tmp 97) = .pointer (some ⟨C, 2, none⟩) := hd ⟨6, .data⟩ (by simp) rfl
            exact Rg.val hk rfl (ex_load _ W _ C 2 _ _ (.int .i64 g.off) rfl (.inl rfl) e0 (((HHB.out.drew).below hs).cell 2 (.int .i64 g.off) rfl)) (Below.refl _ _) rfl
          · intro a W hsl hs hd K1 hk
            have e0 : a.eval (.tmp 98) = .int .i64 g.off := hd ⟨7, .data⟩ (by simp) rfl
            exact Rg.val hk rfl (ex_mul4 _ W _ _ g.off OF HO4.out HOB.out rfl e0 rfl) (Below.refl _ _) rfl
          · intro a W hsl hs hd K1 hk
            have e0 : a.eval (.tmp 91) = .string s := hd ⟨0, .data⟩ (by simp) rfl
            have e1 : a.eval (.tmp 96) = .int .i64 (S : Nat) := hd ⟨5, .data⟩ (by simp) rfl
            have e2 : a.eval (.tmp 99) = .int .i64 (OF : Nat) := hd ⟨8, .data⟩ (by simp) rfl
            exact Rg.val hk rfl (ex_sliceT _ W _ _ _ _ _ _ s F rfl e0 e1 e2 HSLI.out) (Below.refl _ _) rfl
          · intro a W hsl hs hd K1 hk
            have e0 : a.eval (.tmp 100) = .string F := hd ⟨9, .data⟩ (by simp) rfl
            refine Rg.call hk rfl (ex_getopts _ W _ _ _ _ rfl e0 rfl) ((HGO.out W).mono ?_)
            rintro e w5 ⟨hb5, u5, rfl, hu5⟩
            exact ⟨_, rfl, hb5, ⟨u5, rfl, hu5⟩⟩
          · intro a W hsl hs hd K1 hk
            obtain ⟨u5, e0, hu5⟩ : ∃ u, a.eval (.tmp 101) = .tuple #[u, .int .i64 E] ∧ R u W := hd ⟨10, .data⟩ (by simp) rfl
            exact Rg.val hk rfl (ex_move _ W _ _ _ rfl e0) (Below.refl _ _) ⟨u5, rfl, hu5⟩
          · intro a W hsl hs hd K1 hk
            obtain ⟨u5, e0, hu5⟩ : ∃ u, a.eval (.tmp 90) = .tuple #[u, .int .i64 E] ∧ R u W := hd ⟨11, .data⟩ (by simp) rfl
            exact Rg.val hk rfl (ex_extract0 _ W _ _ _ _ rfl e0) (Below.refl _ _) hu5
          · intro a W hsl hs hd K1 hk
            obtain ⟨u5, e0, hu5⟩ : ∃ u, a.eval (.tmp 90) = .tuple #[u, .int .i64 E] ∧ R u W := hd ⟨11, .data⟩ (by simp) rfl
            exact Rg.val hk rfl (ex_extract1 _ W _ _ _ _ rfl e0) (Below.refl _ _) rfl
          · intro a W hsl hs hd K1 hk
            have e0 : R (a.eval (.tmp 102)) W := hd ⟨12, .data⟩ (by simp) rfl
            exact Rg.val hk rfl (ex_setV _ W _ _ _ rfl rfl) (Below.refl _ _) e0
          · intro a W hsl hs hd K1 hk
            have e0 : a.eval (.tmp 103) = .int .i64 E := hd ⟨13, .data⟩ (by simp) rfl
            exact Rg.val hk rfl (ex_setV _ W _ _ _ rfl e0) (Below.refl _ _) rfl
          · intro W5 f hs hk
            obtain ⟨u, hu⟩ : ∃ u, f 20 = u := ⟨_, rfl⟩
            have hr5 : R (f 20) W5 := hk 14 (by decide)
            rw [hu, ← HRE.out] at hr5
            clear hk
            simp only [Rg.puts, List.foldl_cons, List.foldl_nil, Act.put, List.setIfInBounds_toArray, List.set_cons_succ, List.set_cons_zero, hu]
            clear hu
            have hpk5 := (show PkBlk g (.slice pp os2.length cap) DQ K W11.drew from HP11.out).below hs
            have hhd5 := HHB.out.drew.below hs
            have HB5 := Lib.hid (bel_trans HB11.out.drew hs)
            have HO5 := Lib.hid ((show OptsAt W11.drew (.slice pp os2.length cap) os2 from HO11.out.below (bel_drewN W11 1)).below hs)
            have HU5 := Lib.hid hr5
            have HOPS : Hid (∀ m, Calls Tryz.prog 22 #[.slice pp os2.length cap, u] (W5.drewN m) fun e w' => e = .returned (.bool true) ∧ ∃ n, w' = (W5.drewN m).drewN n) := Lib.hid (fun m =>
              opts_same (W5.drewN m) _ _ os2 (HO5.out.below (bel_drewN W5 m)) ((show OptsAt W5 u os2 from HU5.out).below (bel_drewN W5 m)))
            have k0 : W5.cell? ⟨K, 0, none⟩ = some (.int .i64 g.src) := by have := hpk5.range 0 (.int .i64 g.src) rfl; rwa [Nat.zero_add] at this
            have k1 : W5.cell? ⟨K, 1, none⟩ = some (.int .i64 g.dst) := by have := hpk5.range 1 (.int .i64 g.dst) rfl; rwa [Nat.zero_add] at this
            have k2 : W5.cell? ⟨K, 2, none⟩ = some (.int .i64 g.off) := by have := hpk5.range 2 (.int .i64 g.off) rfl; rwa [Nat.zero_add] at this
            have k3 : W5.cell? ⟨K, 3, none⟩ = some (.int .i64 g.cc) := by have := hpk5.range 3 (.int .i64 g.cc) rfl; rwa [Nat.zero_add] at this
            have k4 : W5.cell? ⟨K, 4, none⟩ = some (.int .i64 g.cs) := by have := hpk5.range 4 (.int .i64 g.cs) rfl; rwa [Nat.zero_add] at this
            have k5 : W5.cell? ⟨K, 5, none⟩ = some (.int .i64 g.sum) := by have := hpk5.range 5 (.int .i64 g.sum) rfl; rwa [Nat.zero_add] at this
            have k6 : W5.cell? ⟨K, 6, none⟩ = some (.int .i64 g.type) := by have := hpk5.range 6 (.int .i64 g.type) rfl; rwa [Nat.zero_add] at this
            have k7 : W5.cell? ⟨K, 7, none⟩ = some (.bool g.x) := by have := hpk5.range 7 (.bool g.x) rfl; rwa [Nat.zero_add] at this
            have k8 : W5.cell? ⟨K, 8, none⟩ = some (.int .u64 g.seq) := by have := hpk5.range 8 (.int .u64 g.seq) rfl; rwa [Nat.zero_add] at this
            have k9 : W5.cell? ⟨K, 9, none⟩ = some (.int .u64 g.ack) := by have := hpk5.range 9 (.int .u64 g.ack) rfl; rwa [Nat.zero_add] at this
            have k10 : W5.cell? ⟨K, 10, none⟩ = some (.int .u32 g.service) := by have := hpk5.range 10 (.int .u32 g.service) rfl; rwa [Nat.zero_add] at this
            have k11 : W5.cell? ⟨K, 11, none⟩ = some (.int .i64 g.code) := by have := hpk5.range 11 (.int .i64 g.code) rfl; rwa [Nat.zero_add] at this
            have k12 : W5.cell? ⟨K, 12, none⟩ = some (.int .u8 g.i0) := by have := hpk5.range 12 (.int .u8 g.i0) rfl; rwa [Nat.zero_add] at this
            have k13 : W5.cell? ⟨K, 13, none⟩ = some (.int .u8 g.i1) := by have := hpk5.range 13 (.int .u8 g.i1) rfl; rwa [Nat.zero_add] at this
            have k14 : W5.cell? ⟨K, 14, none⟩ = some (.int .u8 g.i2) := by have := hpk5.range 14 (.int .u8 g.i2) rfl; rwa [Nat.zero_add] at this
            have k15 := hpk5.cells.1
            have k16 := hpk5.cells.2
            have c0 : W5.cell? ⟨C, 0, none⟩ = some (.int .i64 g.src) := hhd5.cell 0 (.int .i64 g.src) rfl
            have c1 : W5.cell? ⟨C, 1, none⟩ = some (.int .i64 g.dst) := hhd5.cell 1 (.int .i64 g.dst) rfl
            have c2 : W5.cell? ⟨C, 2, none⟩ = some (.int .i64 g.off) := hhd5.cell 2 (.int .i64 g.off) rfl
            have c3 : W5.cell? ⟨C, 3, none⟩ = some (.int .i64 g.cc) := hhd5.cell 3 (.int .i64 g.cc) rfl
            have c4 : W5.cell? ⟨C, 4, none⟩ = some (.int .i64 g.cs) := hhd5.cell 4 (.int .i64 g.cs) rfl
            have c5 : W5.cell? ⟨C, 5, none⟩ = some (.int .i64 g.sum) := hhd5.cell 5 (.int .i64 g.sum) rfl
            have c6 : W5.cell? ⟨C, 6, none⟩ = some (.int .i64 g.type) := hhd5.cell 6 (.int .i64 g.type) rfl
            have c7 : W5.cell? ⟨C, 7, none⟩ = some (.bool g.x) := hhd5.cell 7 (.bool g.x) rfl
            have c8 : W5.cell? ⟨C, 8, none⟩ = some (.int .u64 g.seq) := hhd5.cell 8 (.int .u64 g.seq) rfl
            have c9 : W5.cell? ⟨C, 9, none⟩ = some (.int .u64 g.ack) := hhd5.cell 9 (.int .u64 g.ack) rfl
            have c10 : W5.cell? ⟨C, 10, none⟩ = some (.int .u32 g.service) := hhd5.cell 10 (.int .u32 g.service) rfl
            have c11 : W5.cell? ⟨C, 11, none⟩ = some (.int .i64 g.code) := hhd5.cell 11 (.int .i64 g.code) rfl
            have c12 : W5.cell? ⟨C, 12, none⟩ = some (.int .u8 g.i0) := hhd5.cell 12 (.int .u8 g.i0) rfl
            have c13 : W5.cell? ⟨C, 13, none⟩ = some (.int .u8 g.i1) := hhd5.cell 13 (.int .u8 g.i1) rfl
            have c14 : W5.cell? ⟨C, 14, none⟩ = some (.int .u8 g.i2) := hhd5.cell 14 (.int .u8 g.i2) rfl
            have hsfr := HSFR.out
            have ho4 := HO4.out
            have hyo := HHY.out
            have hne := neqHd g g
            rw [(Hd.eqB_iff g g).2 rfl] at hne
            have hgz := fun op x y w => guardHd2 op x y g g w
            unfold Hd.val at hne hgz
            clear hs hr5 hpk5 hhd5 HP11 HB11 HO11 HHB HSZ HSLI HGO HR
            go_upto_region 20 with fail
            go_quiet ((go_at_call 22; exact Calls.quiet_of (HOPS.out _)))
            have HBZ : Hid (Below W6.heap.size W6 (W5.drewN nq)) := Lib.hid (bel_trans hbr.out (bel_trans HB5.out (bel_drewN _ _)))
            clear k0 k1 k2 k3 k4 k5 k6 k7 k8 k9 k10 k11 k12 k13 k14 k15 k16 c0 c1 c2 c3 c4 c5 c6 c7 c8 c9 c10 c11 c12 c13 c14 hne hgz hsfr ho4 HOPS HO5 HU5
            generalize W5.drewN nq = WZ at *
            go_wp2
            refine ⟨⟨k + 1, by go_num, by omega, HBZ⟩, ?_⟩
            simp [intOf]; omega
        · have HGT : Hid (∀ W, Calls Tryz.prog 18 #[.string s] W fun e w' => e = .returned (.tuple #[Pv Hd.zero (.slice none 0 0) ⟨#[]⟩, .int .i64 E]) ∧ Below W.heap.size W w') := Lib.hid (fun W => by
            have hg := pktGet_any l3 (by omega) W
            unfold GetPk at hg
            rw [hE, hs] at hg
            exact hg.mono fun e w' hh => ⟨hh.2.1 hE0, hh.1⟩)
          have HEQ : Hid (∀ W, Calls Tryz.prog 20 #[Pv Hd.zero (.slice none 0 0) ⟨#[]⟩, .agg #[.int .i64 0, .int .i64 0, .int .i64 0, .int .i64 0, .int .i64 0, .int .i64 0, .int .i64 0, .bool false, .int .u64 0, .int .u64 0, .int .u32 0, .int .i64 0, .int .u8 0, .int .u8 0, .int .u8 0, .slice none 0 0, .string ⟨#[]⟩]] W fun e w' => e = .returned (.bool true) ∧ Below W.heap.size W w') := Lib.hid (fun W => pktEq_same Hd.zero none 0 [] ⟨#[]⟩ W (opts_nilP W))
          have t1 : ((E : Int) != 0) = true := by rw [bne_iff_ne]; omega
          clear hE hE0 hs hl3
          go_upto_region 14 with (first
            | (go_at_call 18; refine (HGT.out _).mono ?_; rintro e W7 ⟨rfl, hb7⟩)
            | (refine store_pk rfl _ _ rfl _ Hd.zero Hd.zero _ _ ⟨#[]⟩ none 0 0 rfl rfl (pk_new_at _ _ rfl) ?_; intro W8 hp8 hg8))
          have hb8 : Below wr.heap.size wr W8 := (bel_trans hb7 (bel_alloc _ _)).grown hg8 (bel_trans hb7 (bel_alloc _ _)).size (fun k hk => by cases hk; exact hb7.size)
          obtain ⟨K, hK⟩ : ∃ K, K = W7.heap.size := ⟨_, rfl⟩
          rw [← hK] at hp8 ⊢
          have HP8 := Lib.hid hp8; have HB8 := Lib.hid hb8
          clear hb7 hg8 hp8 hb8 hK hc3 HGT
          go_upto_region 15 with (go_at_call 19; (with_reducible refine (HWG.out _).mono ?_); rintro e W9 ⟨rfl, hb9⟩)
          have HP9 := Lib.hid (HP8.out.below hb9); have HB9 := Lib.hid (bel_trans HB8.out hb9)
          clear hb9 HP8 HB8 HWG
          go_upto_region 17 with (first
            | (refine load_pk_w rfl _ rfl K rfl Hd.zero (.slice none 0 0) ⟨#[]⟩ HP9.out ?_)
            | (go_at_call 20; (with_reducible refine (HEQ.out _).mono ?_); rintro e W10 ⟨rfl, hb10⟩))
          have HB10 : Hid (Below W6.heap.size W6 W10) := Lib.hid (bel_trans hbr.out (bel_trans HB9.out hb10))
          clear hb10 HP9 HB9 HEQ
          go_wp2
          refine ⟨⟨k + 1, by go_num, by omega, HB10⟩, ?_⟩
          simp [intOf]; omega
      · obtain rfl : k = 2 := by omega
        go_wp2
        go_ret
        exact ⟨rfl, bel_trans HBA.out hbr.out⟩
end Go.Proofs.YtcdhllajdpalaaaGreatDoor
