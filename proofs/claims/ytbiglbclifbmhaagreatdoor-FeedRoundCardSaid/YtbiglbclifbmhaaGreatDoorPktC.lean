/-
  pkt.Put's walk.
-/
import Derived.Test.YtbiglbclifbmhaaGreatDoorPkA
import Derived.Deep.DeepFit
import Derived.Deep.RegionHeld3
namespace Go.Proofs.YtbiglbclifbmhaaGreatDoor
open Go.ChangeShapes Go.WideShapes Go.ChangeAt Go.RowKit
set_option linter.unusedVariables false

def PutPk (w : World) (h : Hd) (os : List M.Opt) (d : List UInt8) (e : Ending) (w' : World) : Prop :=
  e = .returned (.tuple #[.string (str (putText h os d)), .int .i64 (putErr h os d)]) ∧ Below w.heap.size w w'

theorem ret_put {w w' : World} {h : Hd} {os : List M.Opt} {d : List UInt8} {s : ByteArray} {n : Int} (h1 : putErr h os d = n) (h2 : s = str (putText h os d)) (hb : Below w.heap.size w w') : PutPk w h os d (.returned (.tuple #[.string s, .int .i64 n])) w' := ⟨by rw [h1, h2], hb⟩

theorem optPut_at {w : World} {v : Value} {os : List M.Opt} (h : OptsAt w v os) : Calls Tryz.prog 121 #[v] w (PutEnd w (M.putOpts os)) := by
  rcases h.at_ with ⟨rfl, a, cap, rfl⟩ | ⟨b, o, cap, rfl, hb, hc⟩
  · exact optPut_none a cap w
  · exact optPut_some b o cap os w hb hc h.len h.data
theorem OptsAt.shape {w : World} {v : Value} {os : List M.Opt} (h : OptsAt w v os) : ∃ a cap, v = .slice a os.length cap := by
  rcases h.at_ with ⟨rfl, a, cap, rfl⟩ | ⟨b, o, cap, rfl, hb, hc⟩
  · exact ⟨a, cap, rfl⟩
  · exact ⟨_, cap, rfl⟩

/-- How far pkt.Put has come: the packet at block B, its new head at block C. -/
structure PSt (w : World) (B C : Nat) (h : Hd) (v : Value) (s : ByteArray) (g : Hd) (W : World) : Prop where
  pk : PkBlk h v s B W
  hd : HdBlk g C W
  ne : B ≠ C
  bel : Below w.heap.size w W
  cge : w.heap.size ≤ C
theorem PSt.below {w : World} {B C : Nat} {h : Hd} {v : Value} {s : ByteArray} {g : Hd} {W W' : World} (a : PSt w B C h v s g W) (hb : Below W.heap.size W W') : PSt w B C h v s g W' :=
  ⟨a.pk.below hb, a.hd.below hb, a.ne, a.bel.trans (hb.mono a.bel.size), a.cge⟩
theorem PSt.set {w : World} {B C : Nat} {h : Hd} {v : Value} {s : ByteArray} {g : Hd} {W : World} (a : PSt w B C h v s g W) (g2 : Hd) (i : Nat) (x : Value) (e : g.cellsA.setIfInBounds i x = g2.cellsA) : PSt w B C h v s g2 (W.setCell ⟨C, i, none⟩ x) :=
  ⟨a.pk.other (grown_set W C i x) (by simpa using a.ne), a.hd.set g2 i x e, a.ne, a.bel.grown (grown_set W C i x) a.bel.size (fun k hk => by cases hk; exact a.cge), a.cge⟩

theorem PSt.drew {w : World} {B C : Nat} {h : Hd} {v : Value} {s : ByteArray} {g : Hd} {W : World} (a : PSt w B C h v s g W) : PSt w B C h v s g W.drew := ⟨a.pk, a.hd, a.ne, a.bel.drew, a.cge⟩
theorem PSt.s {w : World} {B C : Nat} {h : Hd} {v : Value} {s : ByteArray} {g : Hd} {W : World} (a : PSt w B C h v s g W) : PSt w B C h v s g W ∧ W.cell? ⟨C, 0, none⟩ = some (.int .i64 g.src) ∧ W.cell? ⟨C, 1, none⟩ = some (.int .i64 g.dst) ∧ W.cell? ⟨C, 2, none⟩ = some (.int .i64 g.off) ∧ W.cell? ⟨C, 3, none⟩ = some (.int .i64 g.cc) ∧ W.cell? ⟨C, 4, none⟩ = some (.int .i64 g.cs) ∧ W.cell? ⟨C, 5, none⟩ = some (.int .i64 g.sum) ∧ W.cell? ⟨C, 6, none⟩ = some (.int .i64 g.type) ∧ W.cell? ⟨C, 7, none⟩ = some (.bool g.x) ∧ W.cell? ⟨C, 8, none⟩ = some (.int .u64 g.seq) ∧ W.cell? ⟨C, 9, none⟩ = some (.int .u64 g.ack) ∧ W.cell? ⟨C, 10, none⟩ = some (.int .u32 g.service) ∧ W.cell? ⟨C, 11, none⟩ = some (.int .i64 g.code) ∧ W.cell? ⟨C, 12, none⟩ = some (.int .u8 g.i0) ∧ W.cell? ⟨C, 13, none⟩ = some (.int .u8 g.i1) ∧ W.cell? ⟨C, 14, none⟩ = some (.int .u8 g.i2) ∧ W.cell? ⟨B, 16, none⟩ = some (.string s) := by
  have h1 := a.hd.at_
  have h2 := a.pk.cells.2
  unfold HdAt at h1
  obtain ⟨q0, q1, q2, q3, q4, q5, q6, q7, q8, q9, q10, q11, q12, q13, q14⟩ := h1
  exact ⟨a, q0, q1, q2, q3, q4, q5, q6, q7, q8, q9, q10, q11, q12, q13, q14, h2⟩

set_option maxHeartbeats 1600000 in
set_option maxRecDepth 100000 in
theorem pktPut_any (h : Hd) (hok : h.ok) (v : Value) (os : List M.Opt) (d : List UInt8) (w : World) (hos : OptsAt w v os) (hd : d.length ≤ maxLen) :
    Calls Tryz.prog 95 #[Pv h v (str d)] w (PutPk w h os d) := by
  have HPE : Hid (putErr h os d = if h.bare.mayB = false then 3 else if (M.putOpts os).length = 0 ∧ 0 < os.length then 7
    else if largeB (offN h os) d.length = true then 13 else if covB (4 * offN h os + d.length : Nat) (4 * offN h os : Nat) h.cs = false then 5 else 0) := Lib.hid rfl
  obtain ⟨va, vc, rfl⟩ := hos.shape
  obtain ⟨D, hDD⟩ : ∃ D, str d = D := ⟨_, rfl⟩
  have HD := Lib.hid hDD
  rw [hDD]
  have hDs : Hid (D.size = d.length) := Lib.hid (by rw [← hDD]; rfl)
  have HBOX := Lib.hid (PkBlk.new h (.slice va os.length vc) D w)
  have hbx : PkBox h (.slice va os.length vc) D = .cells #[.int .i64 h.src, .int .i64 h.dst, .int .i64 h.off, .int .i64 h.cc, .int .i64 h.cs, .int .i64 h.sum, .int .i64 h.type, .bool h.x, .int .u64 h.seq, .int .u64 h.ack, .int .u32 h.service, .int .i64 h.code, .int .u8 h.i0, .int .u8 h.i1, .int .u8 h.i2, .slice va os.length vc, .string D] 156 := rfl
  have HB0 := Lib.hid (bel_alloc w (PkBox h (.slice va os.length vc) D))
  rw [hbx] at HBOX HB0
  have HOS := Lib.hid hos
  have hz : Hd.zero.box = Obj.cells #[Value.int IntKind.i64 0, Value.int IntKind.i64 0, Value.int IntKind.i64 0, Value.int IntKind.i64 0, Value.int IntKind.i64 0, Value.int IntKind.i64 0, Value.int IntKind.i64 0, Value.bool false, Value.int IntKind.u64 0, Value.int IntKind.u64 0, Value.int IntKind.u32 0, Value.int IntKind.i64 0, Value.int IntKind.u8 0, Value.int IntKind.u8 0, Value.int IntKind.u8 0] 151 := rfl
  have HZ : Hid (∀ w : World, HdBlk Hd.zero w.heap.size (w.alloc (Obj.cells #[Value.int IntKind.i64 0, Value.int IntKind.i64 0, Value.int IntKind.i64 0, Value.int IntKind.i64 0, Value.int IntKind.i64 0, Value.int IntKind.i64 0, Value.int IntKind.i64 0, Value.bool false, Value.int IntKind.u64 0, Value.int IntKind.u64 0, Value.int IntKind.u32 0, Value.int IntKind.i64 0, Value.int IntKind.u8 0, Value.int IntKind.u8 0, Value.int IntKind.u8 0] 151))) := Lib.hid (fun w => by rw [← hz]; exact heap_alloc_new w _)
  have HMAY := Lib.hid (fun W => may_any h.bare W hok.seq hok.ack)
  clear hz hbx hos hDD
  unfold Pv
  go_enter Tryz.func95, Tryz.ntmps95
  go_upto_region 1 with fail
  obtain ⟨B, hB⟩ : ∃ B, B = w.heap.size := ⟨_, rfl⟩
  have hlt0 := HBOX.out.lt
  rw [← hB] at HBOX HB0 hlt0 ⊢
  have HBB := Lib.hid hB
  generalize w.alloc (Obj.cells #[.int .i64 h.src, .int .i64 h.dst, .int .i64 h.off, .int .i64 h.cc, .int .i64 h.cs, .int .i64 h.sum, .int .i64 h.type, .bool h.x, .int .u64 h.seq, .int .u64 h.ack, .int .u32 h.service, .int .i64 h.code, .int .u8 h.i0, .int .u8 h.i1, .int .u8 h.i2, .slice va os.length vc, .string D] 156) = W0 at *
  clear hB
  go_upto_region 2 with (first
    | (refine load_mid rfl _ rfl B rfl h _ D HBOX.out ?_)
    | (go_at_call 119; refine (bare_any h _).mono ?_; rintro e W1 ⟨rfl, hb1⟩)
    | (refine store_blk rfl _ _ rfl _ Hd.zero h.bare rfl rfl (HZ.out _) ?_; intro W2 hc2 hg2))
  have hBC : B ≠ W1.heap.size := by have := hb1.size; omega
  have hwW : w.heap.size ≤ W1.heap.size := by rw [← HBB.out]; have := hb1.size; omega
  have hst : PSt w B W1.heap.size h (.slice va os.length vc) D h.bare W2 := by
    refine ⟨((HBOX.out.below hb1).other (World.grownBy_alloc _ _ none) (by simp)).other hg2 (by simpa using hBC), hc2, hBC, ?_, hwW⟩
    have b1 : Below w.heap.size w W1 := (by rw [← HBB.out]; exact HB0.out : Below w.heap.size w W0).trans (hb1.mono (by rw [← HBB.out]; omega))
    exact (b1.alloc hwW _).grown hg2 (by simp; omega) (fun k hk => by cases hk; exact hwW)
  have HST := Lib.hid hst
  clear hst hb1 hg2 hc2 hwW hlt0 HBOX HB0 HZ hBC
  generalize W1.heap.size = C at *
  by_cases hm : h.bare.mayB = true
  · rw [hm] at HMAY
    rw [if_neg (by rw [hm]; decide)] at HPE
    have HM := Lib.hid hm
    clear hm
    go_upto_region 4 with (first
      | (refine load_blk rfl _ rfl C rfl _ HST.out.hd ?_)
      | (go_at_call 120; refine (HMAY.out _).mono ?_; rintro e W3 ⟨rfl, hb3⟩))
    have st3 := HST.out.below hb3
    have c15 := st3.pk.cells.1
    have HST3 := Lib.hid st3
    clear st3 hb3 HST HMAY
    go_upto_region 5 with (go_at_call 121; refine (optPut_at (HOS.out.below HST3.out.bel)).mono ?_; rintro e W4 ⟨rfl, hb4⟩)
    have st4 := HST3.out.below hb4
    have d15 := st4.pk.cells.1
    have c2 := st4.hd.at_.2.2.1
    have f2 := st4.hd.free 2
    have HST4 := Lib.hid st4
    have hno := putOpts_le os HOS.out.len
    have hn4 := putOpts_len4 os
    obtain ⟨O, hO⟩ : ∃ O, str (M.putOpts os) = O := ⟨_, rfl⟩
    have hOs : O.size = (M.putOpts os).length := by rw [← hO]; rfl
    rw [hO]
    have HO := Lib.hid hO; have HOSZ := Lib.hid hOs
    have hol : O.size ≤ 273804165123 := by omega
    clear st4 hb4 HST3 c15 hO
    have hlenos := HOS.out.len
    by_cases h7 : (M.putOpts os).length = 0 ∧ 0 < os.length
    · have HR : Hid (putErr h os d = 7) := Lib.hid (by rw [HPE.out, if_pos h7])
      have hOe : O = ⟨#[]⟩ := by rw [← HO.out]; exact str_empty h7.1
      subst hOe
      have h70 := h7.2
      clear h7 HPE hOs
      go_wp2
      go_ret2
      exact ret_put (by rw [HR.out]; rfl) (by unfold putText; rw [if_neg (by rw [HR.out]; decide)]; rfl) HST4.out.bel
    · rw [if_neg h7] at HPE
      have hsplit : (O.toList.isEmpty = true ∧ decide (0 < os.length) = false) ∨ O.toList.isEmpty = false := by
        rw [← HO.out, str_toList]
        by_cases h0 : (M.putOpts os).length = 0
        · exact .inl ⟨by rw [List.eq_nil_of_length_eq_zero h0]; rfl, decide_eq_false (fun h => h7 ⟨h0, h⟩)⟩
        · right
          cases hp : M.putOpts os with
          | nil => rw [hp] at h0; exact absurd rfl h0
          | cons _ _ => rfl
      have hoff : ((offN h os : Nat) : Int) = ((sizeN h.type h.x / 4 : Nat) : Int) + (O.size : Int) / 4 := by unfold offN; rw [hOs]; simp
      have hql : offN h os ≤ 1000000000000 := by unfold offN; have := sizeN_le h.type h.x; omega
      have hbo : h.bare.off = ((sizeN h.type h.x / 4 : Nat) : Int) := rfl
      rw [hbo] at c2
      have hz4 : sizeN h.type h.x / 4 ≤ 7 := by have := sizeN_le h.type h.x; omega
      have HOFF := Lib.hid hoff
      have HSET : Hid (∀ W, PSt w B C h (.slice va os.length vc) D h.bare W → PSt w B C h (.slice va os.length vc) D (h.off1 os) (W.setCell ⟨C, 2, none⟩ (.int .i64 (((sizeN h.type h.x / 4 : Nat) : Int) + (O.size : Int) / 4)))) :=
        Lib.hid (fun W a => a.set (h.off1 os) 2 _ (by rw [← hoff]; rfl))
      clear h7 hOs hoff hbo hno hn4
      generalize sizeN h.type h.x / 4 = z4 at *
      rcases hsplit with ⟨he, hl0⟩ | he
      all_goals
        go_upto_region 8 with fail
        have st5 := HSET.out _ HST4.out
        generalize W4.setCell ⟨C, 2, none⟩ (.int .i64 ((z4 : Int) + (O.size : Int) / 4)) = W5 at *
        have e2 := st5.hd.at_.2.2.1
        have e16 := st5.pk.cells.2
        have HST5 := Lib.hid st5
        have hqe : (h.off1 os).off = ((offN h os : Nat) : Int) := rfl
        have hDl : D.size ≤ 9223372036854775807 := by have := hDs.out; unfold maxLen at hd; omega
        rw [hqe] at e2
        have HLG := Lib.hid (fun W => isLarge_any (offN h os) D.size hql hDl W)
        clear st5 c2 f2 HST4 HSET d15 hqe
        by_cases h13 : largeB (offN h os) d.length = true
        · have HR : Hid (putErr h os d = 13) := Lib.hid (by rw [HPE.out, if_pos h13])
          rw [hDs.out, h13] at HLG
          generalize offN h os = q at *
          clear h13 HPE
          have hDs2 := hDs.out
          clear hDs
          go_wp2_with (go_at_call 122; refine (HLG.out _).mono ?_; rintro e W6 ⟨rfl, rfl⟩)
          go_ret2
          exact ret_put (by rw [HR.out]; rfl) (by unfold putText; rw [if_neg (by rw [HR.out]; decide)]; rfl) HST5.out.bel
        · have hq := h13
          unfold largeB at hq
          rw [decide_eq_true_eq] at hq
          have hq1 : offN h os ≤ 255 := by omega
          have hq2 : 4 * offN h os + d.length ≤ 2500 := by omega
          have hd14 : d.length ≤ 1400 := by omega
          have hmay := off1_may HM.out hq1
          have hal := ahead_len HM.out hq1
          rw [if_neg h13] at HPE
          rw [hDs.out, Bool.eq_false_iff.2 h13] at HLG
          have HPUT := Lib.hid (fun W => put_yes (h.off1 os) W hmay hok.seq hok.ack hok.service hok.i0 hok.i1 hok.i2)
          obtain ⟨A, hA⟩ : ∃ A, str (h.off1 os).bytes = A := ⟨_, rfl⟩
          obtain ⟨AO, hAO⟩ : ∃ AO, A ++ O = AO := ⟨_, rfl⟩
          have hAOe : AO = str ((h.off1 os).bytes ++ M.putOpts os) := by rw [← hAO, ← hA, ← HO.out, str_append]
          have hAOs : AO.size = 4 * offN h os := by rw [hAOe]; exact hal
          have hAOs2 : AO.size = A.size + O.size := by rw [← hAO]; simp
          have hAs : A.size + O.size ≤ 9223372036854775807 := by omega
          rw [hA] at HPUT
          have hcs := (mayB_bounds hmay).2.2.2.2.1
          have hcs0 : (h.off1 os).cs = h.cs := rfl
          rw [hcs0] at hcs
          have htot : (4 * offN h os + d.length : Nat) = ((AO.size : Int) + (D.size : Int)) := by rw [hAOs, hDs.out]; simp
          have hoff4 : 4 * (h.off1 os).off = ((4 * offN h os : Nat) : Int) := by show (4 : Int) * ((offN h os : Nat) : Int) = _; simp
          have HCV : Hid (∀ W, Calls Tryz.prog 124 #[(h.off1 os).val, .int .i64 ((AO.size : Int) + (D.size : Int))] W fun e w' => e = .returned (.tuple #[.int .i64 (covI (4 * offN h os + d.length : Nat) (4 * offN h os : Nat) h.cs), .bool (covB (4 * offN h os + d.length : Nat) (4 * offN h os : Nat) h.cs)]) ∧ Below W.heap.size W w') := Lib.hid (fun W => by
            have hh := covered_hd (h.off1 os) ((AO.size : Int) + (D.size : Int)) W (by omega) (by rw [← htot]; omega) (by show (0 : Int) ≤ ((offN h os : Nat) : Int); omega) (by show ((offN h os : Nat) : Int) ≤ 1000000000; omega) (by rw [hcs0]; omega) (by rw [hcs0]; omega)
            rw [hoff4, hcs0] at hh
            rw [htot]
            exact hh)
          have HAOE := Lib.hid hAOe; have HAOS := Lib.hid hAOs
          have hAOl : AO.size ≤ 2500 := by omega
          have hDs1 : D.size ≤ 1400 := by rw [hDs.out]; omega
          have HCI : Hid (covB (4 * offN h os + d.length : Nat) (4 * offN h os : Nat) h.cs = true → ∃ k : Nat, k ≤ d.length ∧ covI (4 * offN h os + d.length : Nat) (4 * offN h os : Nat) h.cs = ((4 * offN h os + k : Nat) : Int) ∧ covLen h os d = k) := Lib.hid (by
            intro hc
            have hcl : covLen h os d = (covI (4 * offN h os + d.length : Nat) (4 * offN h os : Nat) h.cs).toNat - 4 * offN h os := rfl
            unfold covB at hc
            have hc2 := of_decide_eq_true hc
            rw [hcl]
            unfold covI
            rw [if_neg hc2.1]
            by_cases h0 : h.cs = 0
            · rw [if_pos h0]; exact ⟨d.length, Nat.le_refl _, rfl, by omega⟩
            · rw [if_neg h0, if_neg (hc2.2.resolve_left h0)]
              have h5 := hc2.2.resolve_left h0
              exact ⟨(4 * (h.cs - 1)).toNat, by omega, by omega, by omega⟩)
          have hpm := @pkHead_may h os d HM.out hq1
          have HA := Lib.hid hA
          clear hoff4 hcs0 htot hAOe hAOs hAOs2 hal h13 hq hA HLG hql hDl hmay
          have HLG2 := Lib.hid (fun W => isLarge_any (offN h os) D.size (by omega) (by omega) W)
          rw [show largeB (offN h os) D.size = false by unfold largeB; rw [hDs.out]; exact decide_eq_false (by omega)] at HLG2
          generalize hqq : offN h os = q at *
          go_upto_region 10 with (go_at_call 122; refine (HLG2.out _).mono ?_; rintro e W6 ⟨rfl, rfl⟩)
          go_upto_region 11 with (first
            | (refine load_blk rfl _ rfl C rfl _ HST5.out.hd ?_)
            | (go_at_call 123; refine (HPUT.out _).mono ?_; rintro e W7 ⟨rfl, hb7⟩))
          have st7 := HST5.out.below hb7
          have g16 := st7.pk.cells.2
          have HST7 := Lib.hid st7
          clear st7 hb7 HST5 e16 e2 HLG2
          by_cases hcv : covB (4 * q + d.length : Nat) (4 * q : Nat) h.cs = true
          · obtain ⟨k, hk, hci, hcl⟩ := HCI.out hcv
            have HR : Hid (putErr h os d = 0) := Lib.hid (by rw [HPE.out, if_neg (by rw [hcv]; decide)])
            rw [hcv, hci] at HCV
            have hAO4 := HAOS.out
            obtain ⟨N, hN⟩ : ∃ N : Int, ((4 * q + k : Nat) : Int) = N := ⟨_, rfl⟩
            rw [hN] at HCV
            have hNk : N - (AO.size : Int) = (k : Int) := by omega
            have hNl : (AO.size : Int) ≤ N := by omega
            have hNu : N ≤ 10000 := by omega
            obtain ⟨E, hE⟩ : ∃ E, str (d.take k) = E := ⟨_, rfl⟩
            have hkD : k ≤ D.size := by rw [hDs.out]; exact hk
            have hrun : ∀ W : World, (Instr.slice 9 (.string D) none (some (.int .i64 (N - (AO.size : Int)))) none).run Tryz.prog W = .ok (.string E) W := fun W => by
              rw [hNk, run_slice_string_h W 9 D Tryz.underlying9 .i64 k (by omega) (by omega)]
              have hx := str_extract d 0 k
              rw [HD.out, List.drop_zero, hE] at hx
              exact congrArg (fun z => Result.ok (Value.string z) W) hx
            have hEs : E.size ≤ 1400 := by rw [← hE]; show (d.take k).length ≤ 1400; rw [List.length_take]; omega
            have HSUM : Hid (∀ W : World, Calls Tryz.prog 99 #[.slice (some ⟨W.heap.size, 0, none⟩) 2 2] (W.alloc (.cells #[.string AO, .string E] 9)) fun e w' => e = .returned (.int .i64 (pkSum h os d)) ∧ (W.alloc (.cells #[.string AO, .string E] 9)) = w') := Lib.hid (fun W => by
              have hj : M.joined [AO, E] = (h.off1 os).bytes ++ M.putOpts os ++ d.take k := by
                unfold M.joined
                rw [HAOE.out, ← hE]
                simp [str]
              have hs := sumOf_at (w := W.alloc (.cells #[.string AO, .string E] 9)) (v := .slice (some ⟨W.heap.size, 0, none⟩) 2 2) (ss := [AO, E]) ⟨.inr ⟨⟨W.heap.size, 0, none⟩, 2, rfl, fun i hi => by
                  rw [Addr.add_mid, cell_of_row _ _ _ _ _ _ (heap_alloc_new W _)]
                  have : i = 0 ∨ i = 1 := by simp at hi; omega
                  rcases this with rfl | rfl <;> rfl⟩, by simp, by
                  intro s hs
                  simp at hs
                  unfold maxLen
                  rcases hs with rfl | rfl <;> omega, by
                  rw [hj]
                  have e1 : ((h.off1 os).bytes ++ M.putOpts os).length = AO.size := by rw [HAOE.out]; rfl
                  rw [List.length_append, e1, List.length_take]; omega⟩
              rw [hj] at hs
              unfold pkSum
              rw [hcl]
              exact hs)
            have hss : pkSum h os d ≤ 65535 := by unfold pkSum M.sum16; omega
            have HPH : Hid (∀ W, PSt w B C h (.slice va os.length vc) D (h.off1 os) W → PSt w B C h (.slice va os.length vc) D (pkHead h os d) (W.setCell ⟨C, 5, none⟩ (.int .i64 ((pkSum h os d : Nat) : Int)))) :=
              Lib.hid (fun W a => a.set (pkHead h os d) 5 _ rfl)
            have HNK := Lib.hid hNk; have HE := Lib.hid hE
            clear hcv hci hN hNk hE hkD HPE HCI hcl hAO4
            go_upto_region 14 with (first
              | (refine load_blk rfl _ rfl C rfl _ HST7.out.hd ?_)
              | (go_at_call 124; (with_reducible refine (HCV.out _).mono ?_); rintro e W8 ⟨rfl, hb8⟩))
            have st8 := HST7.out.below hb8
            have i16 := st8.pk.cells.2
            have st9 := st8.below (bel_alloc W8 (.cells #[.string AO, .string E] 9))
            have c5 := st9.hd.at_.2.2.2.2.2.1
            have f5 := st9.hd.free 5
            have HST9 := Lib.hid st9
            clear st8 st9 hb8 g16 HST7
            go_upto_region 15 with (go_at_call 99; refine (HSUM.out _).mono ?_; rintro e W9 ⟨rfl, rfl⟩)
            have st10 := HPH.out _ HST9.out
            generalize (W8.alloc (.cells #[.string AO, .string E] 9)).setCell ⟨C, 5, none⟩ (.int .i64 ((pkSum h os d : Nat) : Int)) = W10 at *
            have HPM := Lib.hid hpm
            have HP2 := Lib.hid (fun W => put_yes (pkHead h os d) W hpm hok.seq hok.ack hok.service hok.i0 hok.i1 hok.i2)
            obtain ⟨A2, hA2⟩ : ∃ A2, str (pkHead h os d).bytes = A2 := ⟨_, rfl⟩
            have hA2s : A2.size ≤ 28 := by
              rw [← hA2]
              show (pkHead h os d).bytes.length ≤ 28
              rw [bytes_len hpm]; exact sizeN_le _ _
            rw [hA2] at HP2
            have j16 := st10.pk.cells.2
            unfold Hd.val at HP2
            have HST10 := Lib.hid st10
            have HA2 := Lib.hid hA2
            have hOA : ¬ 9223372036854775807 < A2.size + O.size := by omega
            have hOD : ¬ 9223372036854775807 < (A2 ++ O).size + D.size := by rw [ByteArray.size_append]; omega
            obtain ⟨AO2, hAO2⟩ : ∃ AO2, A2 ++ O = AO2 := ⟨_, rfl⟩
            obtain ⟨R, hRR⟩ : ∃ R, AO2 ++ D = R := ⟨_, rfl⟩
            rw [hAO2] at hOD
            have HAO2 := Lib.hid hAO2; have HRR := Lib.hid hRR
            have HFIN : Hid (putText h os d = pkBytes h os d) := Lib.hid (by unfold putText; rw [if_pos HR.out])
            clear hA2 st10 hpm c5 f5 i16 HST9 HPH hrun HSUM HCV HPUT hA2s
            clear j16
            generalize hpk : pkHead h os d = pk at *
            have HPK := Lib.hid hpk
            clear hpk
            go_region_held3 (fun W => PSt w B C h (.slice va os.length vc) D pk W ∧ W.cell? ⟨C, 0, none⟩ = some (.int .i64 pk.src) ∧ W.cell? ⟨C, 1, none⟩ = some (.int .i64 pk.dst) ∧ W.cell? ⟨C, 2, none⟩ = some (.int .i64 pk.off) ∧ W.cell? ⟨C, 3, none⟩ = some (.int .i64 pk.cc) ∧ W.cell? ⟨C, 4, none⟩ = some (.int .i64 pk.cs) ∧ W.cell? ⟨C, 5, none⟩ = some (.int .i64 pk.sum) ∧ W.cell? ⟨C, 6, none⟩ = some (.int .i64 pk.type) ∧ W.cell? ⟨C, 7, none⟩ = some (.bool pk.x) ∧ W.cell? ⟨C, 8, none⟩ = some (.int .u64 pk.seq) ∧ W.cell? ⟨C, 9, none⟩ = some (.int .u64 pk.ack) ∧ W.cell? ⟨C, 10, none⟩ = some (.int .u32 pk.service) ∧ W.cell? ⟨C, 11, none⟩ = some (.int .i64 pk.code) ∧ W.cell? ⟨C, 12, none⟩ = some (.int .u8 pk.i0) ∧ W.cell? ⟨C, 13, none⟩ = some (.int .u8 pk.i1) ∧ W.cell? ⟨C, 14, none⟩ = some (.int .u8 pk.i2) ∧ W.cell? ⟨B, 16, none⟩ = some (.string D))
              (first | exact HST10.out.s | exact HST10.out.drew.s | exact (PSt.below (And.left ‹PSt w B C h (.slice va os.length vc) D pk _ ∧ _›) hb11).s)
              (first
              | (go_at_call 123; refine (HP2.out _).mono ?_; rintro e W11 ⟨rfl, hb11⟩))
            all_goals (
              go_wp2
              go_ret2
              refine ret_put (by rw [HR.out]; rfl) ?_ (HST10.out.drew.below hb11).bel
              rw [HFIN.out, pkBytes, HPK.out, ← HRR.out, ← HAO2.out, ← HA2.out, ← HO.out, ← HD.out, str_append, str_append])
          · have hcf := Bool.eq_false_iff.2 hcv
            have HR : Hid (putErr h os d = 5) := Lib.hid (by rw [HPE.out, if_pos hcf])
            rw [hcf] at HCV
            generalize covI (4 * q + d.length : Nat) (4 * q : Nat) h.cs = N at *
            clear hcv hcf HPE HCI
            go_wp2_with (first
              | (refine load_blk rfl _ rfl C rfl _ HST7.out.hd ?_)
              | (go_at_call 124; (with_reducible refine (HCV.out _).mono ?_); rintro e W8 ⟨rfl, hb8⟩))
            go_ret2
            exact ret_put (by rw [HR.out]; rfl) (by unfold putText; rw [if_neg (by rw [HR.out]; decide)]; rfl) (HST7.out.below hb8).bel
  · have hmf := Bool.eq_false_iff.2 hm
    rw [hmf] at HMAY
    have HR : Hid (putErr h os d = 3) := Lib.hid (by rw [HPE.out, if_pos hmf])
    clear hm hmf HPE
    go_wp2_with (first
      | (refine load_blk rfl _ rfl C rfl _ HST.out.hd ?_)
      | (go_at_call 120; refine (HMAY.out _).mono ?_; rintro e W3 ⟨rfl, hb3⟩))
    go_ret2
    exact ret_put (by rw [HR.out]; rfl) (by unfold putText; rw [if_neg (by rw [HR.out]; decide)]; rfl) (HST.out.below hb3).bel
end Go.Proofs.YtbiglbclifbmhaaGreatDoor
