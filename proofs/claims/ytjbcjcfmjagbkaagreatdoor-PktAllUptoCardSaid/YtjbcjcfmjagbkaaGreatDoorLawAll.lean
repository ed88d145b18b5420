/-
  The law PktAll, walked.
-/
import Derived.Test.YtjbcjcfmjagbkaaGreatDoorPktEq
import Derived.Test.YtjbcjcfmjagbkaaGreatDoorOptMath2
namespace Go.Proofs.YtjbcjcfmjagbkaaGreatDoor
open Go.ChangeShapes Go.WideShapes Go.ChangeAt Go.RowKit
set_option linter.unusedVariables false
set_option linter.unusedSimpArgs false

/-- A whole head loaded, guarded or not. -/
theorem load_hd_w {ops : Array Oper} {rest : List Oper} {o : Oper} {a : Act} {w : World} {Q : Exit → Act → World → Prop} (hgd : Region.wanted o (yielded ops a.tmps) = true) (x : Operand) (ho : o.op = .load 26 x)
    (C : Nat) (hx : a.eval x = .pointer (some ⟨C, 0, none⟩)) (h : Hd) (hb : HdBlk h C w)
    (hh : wpList Tryz.prog ops Q rest (a.put o.dst h.val) w) : wpList Tryz.prog ops Q (o :: rest) a w :=
  BigFrame.wpList_want hgd fun _ hK => wp_load_row 26 x ho C hx 26 h.cellsA (0, 0) _ hb Tryz.underlying26 rfl infoHd (hK _ _ hh)
/-- A whole packet loaded, guarded or not. -/
theorem load_pk_w {ops : Array Oper} {rest : List Oper} {o : Oper} {a : Act} {w : World} {Q : Exit → Act → World → Prop} (hgd : Region.wanted o (yielded ops a.tmps) = true) (x : Operand) (ho : o.op = .load 49 x)
    (C : Nat) (hx : a.eval x = .pointer (some ⟨C, 0, none⟩)) (h : Hd) (v : Value) (s : ByteArray) (hb : PkBlk h v s C w)
    (hh : wpList Tryz.prog ops Q rest (a.put o.dst (Pv h v s)) w) : wpList Tryz.prog ops Q (o :: rest) a w :=
  BigFrame.wpList_want hgd fun _ hK => wp_load_row 49 x ho C hx 49 (pkCells h v s) (0, 0) _ hb Tryz.underlying49 rfl infoPk (hK _ _ hh)
theorem opts_nilP (W : World) : OptsAt W (.slice none 0 0) [] := ⟨.inl ⟨rfl, none, 0, rfl⟩, by simp, by simp⟩
def stepP (s : Bool × Bool) (o : M.Opt) : Bool × Bool := if o.t = 0 then s else (decide (o.t = 1), s.2 || (s.1 && decide (o.t = 1)))
theorem foldP_bad (os : List M.Opt) : ∀ m b, ((os.foldl stepP (m, b)).2 || (os.foldl stepP (m, b)).1) = (b || badF m os) := by
  induction os with
  | nil => intro m b; rfl
  | cons o os ih =>
    intro m b
    rw [List.foldl_cons]
    unfold badF
    by_cases h0 : o.t = 0
    · rw [if_pos h0, show stepP (m, b) o = (m, b) from if_pos h0, ih]
    · rw [if_neg h0, show stepP (m, b) o = (decide (o.t = 1), b || (m && decide (o.t = 1))) from if_neg h0, ih]
      by_cases h1 : o.t = 1
      · cases m <;> cases b <;> simp [h1]
      · cases m <;> cases b <;> simp [h1]
theorem wantP_snoc (os : List M.Opt) (o : M.Opt) : wantO (os ++ [o]) = if o.t = 0 then wantO os else wantO os ++ [o] := by
  unfold wantO
  rw [List.filter_append]
  by_cases h0 : o.t = 0
  · rw [if_pos h0]; simp [h0]
  · rw [if_neg h0]; simp [h0]
theorem foldP_snoc (os : List M.Opt) (o : M.Opt) : (os ++ [o]).foldl stepP (false, false) = stepP (os.foldl stepP (false, false)) o := by rw [List.foldl_append]; rfl
theorem opts_many {os : List M.Opt} (h : os.all M.optMay = true) : os.length ≤ (M.optsBytes os).length := by
  induction os with
  | nil => simp
  | cons o os ih =>
    simp only [List.all_cons, Bool.and_eq_true] at h
    have := (M.optBytes_len h.1).1
    have e : M.optsBytes (o :: os) = M.optBytes o ++ M.optsBytes os := by simp [M.optsBytes]
    rw [e, List.length_append, List.length_cons]
    have := ih h.2
    omega
/-- Of a packet that is written every option may be. -/
theorem put_all {h : Hd} {os : List M.Opt} {d : List UInt8} (he : putErr h os d = 0) : os.all M.optMay = true ∧ os.length ≤ 1020 := by
  obtain ⟨_, h2, h3, _⟩ := putErr_zero he
  have ha : os.all M.optMay = true := by
    cases hb : os.all M.optMay with
    | true => rfl
    | false =>
      have h0 := putOpts_bad (os := os) (by rw [hb]; decide)
      rcases Nat.eq_zero_or_pos os.length with hz | hz
      · have : os = [] := List.eq_nil_of_length_eq_zero hz
        subst this; cases hb
      · exact absurd ⟨h0, hz⟩ h2
  refine ⟨ha, ?_⟩
  have h4 := putOpts_all ha
  have h5 := opts_many ha
  have h6 : (M.putOpts os).length ≤ 1020 := by
    have : 4 * offN h os ≤ 1020 := by omega
    unfold offN at this
    have := putOpts_len4 os
    omega
  omega

set_option maxHeartbeats 8000000 in
set_option maxRecDepth 100000 in
theorem pktAll_walk (h : Hd) (hok : h.ok) (va : Option Addr) (vc : Nat) (os : List M.Opt) (d : List UInt8) (w : World) (hos : OptsAt w (.slice va os.length vc) os) (hd : d.length ≤ 1048576) (hol : os.length ≤ 1048576) :
    Calls Tryz.prog 6 #[Pv h (.slice va os.length vc) (str d)] w fun e w' => e = .returned (.bool true) ∧ Below w.heap.size w w' := by
  obtain ⟨D, hDD⟩ : ∃ D, str d = D := ⟨_, rfl⟩
  have HDD := Lib.hid hDD
  have HDS : Hid (D.size = d.length) := Lib.hid (by rw [← hDD]; rfl)
  rw [hDD]
  have HPUT : Hid (∀ W, Below w.heap.size w W → Calls Tryz.prog 38 #[Pv h (.slice va os.length vc) D] W fun e w' => e = .returned (.tuple #[.string (str (putText h os d)), .int .i64 (putErr h os d : Nat)]) ∧ Below W.heap.size W w') := Lib.hid (fun W hb => by
    have hp := pktPut_any h hok _ os d W (hos.below hb) (by unfold maxLen; omega)
    rw [hDD] at hp
    exact hp)
  have HMAY : Hid (∀ W, Below w.heap.size w W → Calls Tryz.prog 39 #[Pv h (.slice va os.length vc) D] W fun e w' => e = .returned (.int .i64 (putErr h os d : Nat)) ∧ Below W.heap.size W w') := Lib.hid (fun W hb => by
    have hp := may1_any h hok va vc os d W (hos.below hb) (by omega) (by omega)
    rw [hDD] at hp
    exact hp)
  have HBOX := Lib.hid (PkBlk.new h (.slice va os.length vc) D w)
  have hbx : PkBox h (.slice va os.length vc) D = .cells #[.int .i64 h.src, .int .i64 h.dst, .int .i64 h.off, .int .i64 h.cc, .int .i64 h.cs, .int .i64 h.sum, .int .i64 h.type, .bool h.x, .int .u64 h.seq, .int .u64 h.ack, .int .u32 h.service, .int .i64 h.code, .int .u8 h.i0, .int .u8 h.i1, .int .u8 h.i2, .slice va os.length vc, .string D] 49 := rfl
  have HB0 := Lib.hid (bel_alloc w (PkBox h (.slice va os.length vc) D))
  rw [hbx] at HBOX HB0
  obtain ⟨l, hl⟩ : ∃ l, putText h os d = l := ⟨_, rfl⟩
  obtain ⟨n, hn⟩ : ∃ n, putErr h os d = n := ⟨_, rfl⟩
  have HL : Hid (n = 0 → l = pkBytes h os d) := Lib.hid (fun hz => by rw [← hl]; unfold putText; rw [if_pos (by omega)])
  have HLN : Hid (n ≠ 0 → l = []) := Lib.hid (fun hz => by rw [← hl]; unfold putText; rw [if_neg (by omega)])
  have HN : Hid (putErr h os d = n) := Lib.hid hn
  rw [hl, hn] at HPUT
  rw [hn] at HMAY
  have HOK := Lib.hid hok
  have HOS := Lib.hid hos
  have hn1 : n ≤ 13 := by rw [← hn]; unfold putErr; (repeat' split) <;> omega
  clear hbx hos hDD hl hn hok
  unfold Pv
  go_enter Tryz.func6, Tryz.ntmps6
  go_upto_region 4 with (go_at_call 17; refine (begun_any _).mono ?_; rintro e w0 ⟨rfl, hb0⟩)
  have hbox := HBOX.out.below hb0
  have HB1 := Lib.hid (bel_trans HB0.out hb0)
  obtain ⟨B, hB⟩ : ∃ B, B = w.heap.size := ⟨_, rfl⟩
  rw [← hB] at hbox ⊢
  have HBB := Lib.hid hB
  have HBX := Lib.hid hbox
  clear hB hb0 hbox HBOX HB0
  go_upto_region 6 with (first
    | (refine load_pk rfl _ rfl B rfl h _ D HBX.out ?_)
    | (go_at_call 38; refine (HPUT.out _ HB1.out).mono ?_; rintro e W2 ⟨rfl, hb2⟩; have hBX2 := HBX.out.below hb2; have hBL2 := bel_trans HB1.out hb2)
    | (refine load_pk rfl _ rfl B rfl h _ D hBX2 ?_)
    | (go_at_call 39; refine (HMAY.out _ hBL2).mono ?_; rintro e W3 ⟨rfl, hb3⟩))
  have HBX3 := Lib.hid (hBX2.below hb3); have HBL3 := Lib.hid (bel_trans hBL2 hb3)
  clear hb2 hb3 hBX2 hBL2 HBX HB1 HPUT HMAY
  by_cases hn0 : n = 0
  · subst hn0
    have R := pk_round h os d HOK.out HN.out
    have hlen := R.len
    have hsm := R.small
    obtain ⟨hall, ho1020⟩ := put_all HN.out
    obtain rfl := HL.out rfl
    obtain ⟨q0, hq0⟩ : ∃ q, str (pkBytes h os d) = q := ⟨_, rfl⟩
    have HQ0 := Lib.hid hq0
    obtain ⟨bb, hbb⟩ : ∃ bb, badF false os = bb := ⟨_, rfl⟩
    have hgo : getOs (pkBytes h os d) = if bb = true then none else some (wantO os) := by rw [R.gos, get_put os hall, hbb]
    have hwd : ∀ o ∈ wantO os, o.d.length ≤ maxLen := fun o ho => HOS.out.data o (by unfold wantO at ho; exact (List.mem_filter.1 ho).1)
    have hwl : (wantO os).length ≤ 1020 := by
      have h1 := List.length_filter_le (fun o : M.Opt => decide (o.t ≠ 0)) os
      unfold wantO; omega
    obtain ⟨Q, hQ⟩ : ∃ Q : Hd, (if bb = true then Hd.zero else pkHead h os d) = Q := ⟨_, rfl⟩
    obtain ⟨DQ, hDQ⟩ : ∃ Q : ByteArray, (if bb = true then ⟨#[]⟩ else D) = Q := ⟨_, rfl⟩
    obtain ⟨lo, hlo⟩ : ∃ Q : List M.Opt, (if bb = true then [] else wantO os) = Q := ⟨_, rfl⟩
    obtain ⟨E1, hE1⟩ : ∃ Q : Int, (if bb = true then 7 else 0) = Q := ⟨_, rfl⟩
    have HGET : Hid (∀ W, Calls Tryz.prog 40 #[.string q0] W fun e w' => ∃ p cap, e = .returned (.tuple #[Pv Q (.slice p lo.length cap) DQ, .int .i64 E1]) ∧ OptsAt w' (.slice p lo.length cap) lo ∧ Below W.heap.size W w') := Lib.hid (fun W => by
      cases bb with
      | true =>
        rw [if_pos rfl] at hQ hDQ hlo hE1 hgo
        subst hQ hDQ hlo hE1
        have he := R.err
        rw [hgo, if_pos rfl] at he
        have hg := pktGet_any (pkBytes h os d) (by omega) W
        unfold GetPk at hg
        rw [he, hq0] at hg
        exact hg.mono fun e w' hh => ⟨none, 0, hh.2.1 (by decide), opts_nilP w', hh.1⟩
      | false =>
        rw [if_neg (by decide)] at hQ hDQ hlo hE1 hgo
        subst hQ hDQ hlo hE1
        have he := R.err
        rw [hgo, if_neg (by simp)] at he
        have hg := pktGet_yes (by omega) he hgo W
        rw [R.hd, R.gd, HDD.out, hq0] at hg
        exact hg.mono fun e w' ⟨p, cap, hh1, hh2⟩ => ⟨p, cap, hh1, hh2.at (by omega) hwd, hh2.2.1⟩)
    have HR := Lib.hid R; have HBB2 := Lib.hid hbb; have HALL := Lib.hid hall
    have HQ := Lib.hid hQ; have HDQ := Lib.hid hDQ; have HLO := Lib.hid hlo; have HE1 := Lib.hid hE1
    have HWD := Lib.hid hwd; have HWLL := Lib.hid hwl
    have HLEN := Lib.hid hlen; have HSM := Lib.hid hsm
    have hqs : Hid ((q0.size : Int) = ((pkBytes h os d).length : Int)) := Lib.hid (by rw [← hq0]; rfl)
    have hE7 : E1 = 7 ∨ E1 = 0 := by rw [← hE1]; cases bb <;> simp
    rw [hq0]
    have hne0 : q0.toList.isEmpty = false := by
      rw [← hq0, str_toList]
      cases hl : pkBytes h os d with
      | nil => have := fault_facts R.fault; rw [hl] at this; simp at this
      | cons _ _ => rfl
    have t3 : (((0 : Nat) : Int) != ((0 : Nat) : Int)) = false := by simp
    clear R hlen hsm hgo hwd hwl hQ hDQ hlo hE1 hq0 hbb hall HL HLN hd
    go_upto_region 11 with (first
      | (go_at_call 40; refine (HGET.out _).mono ?_; rintro e W6 ⟨pp, cap, rfl, hoq, hb6⟩)
      | (refine store_pk rfl _ _ rfl _ Hd.zero Q _ _ DQ pp lo.length cap rfl rfl (pk_new_at _ _ rfl) ?_; intro W7 hp7 hg7))
    have hb7a := bel_trans HBL3.out hb6
    have hb7 : Below w.heap.size w W7 := (bel_trans hb7a (bel_alloc _ _)).grown hg7 (bel_trans hb7a (bel_alloc _ _)).size (fun k hk => by cases hk; exact hb7a.size)
    have hx6 := HBX3.out.below hb6
    have hx7 := (hx6.below (bel_alloc W6 _)).other hg7 (by have := hx6.lt; simp; omega)
    have ho7 : OptsAt W7 (.slice pp lo.length cap) lo := hoq.below ((bel_alloc W6 pk0).grown hg7 (by simp) (fun k hk => by cases hk; exact Nat.le_refl _))
    obtain ⟨K, hK⟩ : ∃ K, K = W6.heap.size := ⟨_, rfl⟩
    rw [← hK] at hp7 ⊢
    have HB7 := Lib.hid hb7; have HX7 := Lib.hid hx7; have HP7 := Lib.hid hp7; have HO7 := Lib.hid ho7
    have c15 := hx7.cells.1
    clear hb6 hb7 hb7a hg7 hp7 hx6 hx7 ho7 hoq hK HBX3 HBL3 HGET
    obtain ⟨m, hm⟩ : ∃ m, os.length = m := ⟨_, rfl⟩
    have HMM := Lib.hid hm
    obtain ⟨p', cap', he', hp'⟩ := HOS.out.parts
    have hpp : p' = va := by injection he' with e1 _ _; exact e1.symm
    subst hpp
    have HP := Lib.hid hp'
    rw [hm] at HP hol ho1020 c15 ⊢
    have HX7 : Hid (PkBlk h (.slice p' m vc) D B W7) := by rw [← hm]; exact HX7
    clear he' hp' hm
    go_wp2
    have HX8 := Lib.hid (HX7.out.below (Below.refl _ _)); have HP8 := HP7
    have HNIL := Lib.hid (OptsOwn.nil W7)
    clear c15
    go_loopw [9, 10, 11, 49] (fun b c v i wr => ∃ (k : Nat) (mu ba : Bool), b = .bool ba ∧ c = .bool mu ∧ i = .int .i64 (k : Int) ∧ k ≤ m ∧ Hid ((os.take k).foldl stepP (false, false) = (mu, ba)) ∧ Hid (OptsOwn W7.heap.size v (wantO (os.take k)) W7 wr)) (fun _ _ _ i _ => m - (intOf i).toNat)
    case atStart => exact ⟨0, false, false, rfl, rfl, rfl, by omega, Lib.hid rfl, HNIL⟩
    case round =>
      obtain ⟨k, mu, ba, rfl, rfl, rfl, hk, hmb, hown⟩ := hrel
      by_cases hkm : k < m
      · obtain ⟨b, o, rfl, hbl, c1, d1⟩ := HP.out k hkm
        have hbw : Below w.heap.size w wr := bel_trans HB7.out hown.out.2.1
        have HPC := Lib.hid (And.intro (And.intro c1 d1) hbl)
        have hts := take_snocO os k (by rw [HMM.out]; exact hkm)
        have HMB : Hid ((os.take (k + 1)).foldl stepP (false, false) = stepP (mu, ba) (os.getD k ⟨0, []⟩)) := Lib.hid (by rw [hts, foldP_snoc, hmb.out])
        have HMC : Hid (wantO (os.take (k + 1)) = if (os.getD k ⟨0, []⟩).t = 0 then wantO (os.take k) else wantO (os.take k) ++ [os.getD k ⟨0, []⟩]) := Lib.hid (by rw [hts, wantP_snoc])
        have HLW : Hid ((wantO (os.take k)).length ≤ 1073741824) := Lib.hid (by
          have h1 := List.length_filter_le (fun o : M.Opt => decide (o.t ≠ 0)) (os.take k)
          have h2 : (os.take k).length ≤ k := List.length_take_le _ _
          unfold wantO; omega)
        generalize os.getD k ⟨0, []⟩ = ok at *
        obtain ⟨kt, kd⟩ := ok
        dsimp only at c1 d1 HMC HMB HPC
        obtain ⟨ds, hds⟩ : ∃ ds, str kd = ds := ⟨_, rfl⟩
        rw [hds] at d1 HPC
        have HDS := Lib.hid hds
        have HW : Hid (∀ W, Below W7.heap.size W7 W → W.cell? ⟨b, o + k * 2, none⟩ = some (.int .i64 kt) ∧ W.cell? ⟨b, o + k * 2 + 1, none⟩ = some (.string ds) ∧ W.cell? ⟨B, 15, none⟩ = some (.slice (some ⟨b, o, none⟩) m vc)) := Lib.hid (fun W hb => by
          obtain ⟨q1, q2⟩ := HPC.out
          have hbw := bel_trans HB7.out hb
          rw [hbw.cell (p := ⟨b, o + k * 2, none⟩) q2, hbw.cell (p := ⟨b, o + k * 2 + 1, none⟩) q2]
          exact ⟨q1.1, q1.2, (HX8.out.below hb).cells.1⟩)
        obtain ⟨c1, d1, x1⟩ := HW.out wr hown.out.2.1
        clear hts hds hbl hbw HPC
        by_cases h0 : kt = 0
        · subst h0
          have HMC2 : Hid (wantO (os.take (k + 1)) = wantO (os.take k)) := Lib.hid (by rw [HMC.out, if_pos rfl])
          have HMB2 : Hid ((os.take (k + 1)).foldl stepP (false, false) = (mu, ba)) := Lib.hid (by rw [HMB.out]; exact if_pos rfl)
          go_wp2
          refine ⟨⟨k + 1, mu, ba, rfl, rfl, by go_num, by omega, HMB2, Lib.hid (by rw [HMC2.out]; exact hown.out)⟩, ?_⟩
          simp [intOf]; omega
        · have h0' : (kt != 0) = true := by rw [bne_iff_ne]; exact h0
          have HMC2 : Hid (wantO (os.take (k + 1)) = wantO (os.take k) ++ [⟨kt, kd⟩]) := Lib.hid (by rw [HMC.out, if_neg h0])
          have HMB2 : Hid ((os.take (k + 1)).foldl stepP (false, false) = (decide (kt = 1), ba || (mu && decide (kt = 1)))) := Lib.hid (by rw [HMB.out]; exact if_neg h0)
          have HOW := hown
          clear h0 hown
          go_upto_region 18 with (at_builtin; refine wp_opt rfl _ _ rfl _ _ (wantO (os.take k)) rfl W7 wr _ ⟨kt, kd⟩ (by unfold OvBox; rw [HDS.out]) HOW.out _ rfl rfl HLW.out ?_; intro v2 w9 hb9)
          obtain ⟨c2, d2, x2⟩ := HW.out w9 hb9.2.1
          have HO9 := Lib.hid hb9
          clear c1 d1 x1 hb9
          by_cases h1 : kt = 1
          · subst h1
            have e1 : decide ((1 : Int) = 1) = true := rfl
            rw [e1] at HMB2
            clear e1 h0'
            cases ba <;> cases mu
            all_goals
              go_wp2
              refine ⟨⟨k + 1, _, _, rfl, rfl, by go_num, by omega, HMB2, Lib.hid (by rw [HMC2.out]; exact HO9.out)⟩, ?_⟩
              simp [intOf]; omega
          · have h1' : (kt == 1) = false := by rw [beq_eq_false_iff_ne]; exact h1
            rw [decide_eq_false h1] at HMB2
            clear h1 h0'
            cases ba <;> cases mu
            all_goals
              go_wp2
              refine ⟨⟨k + 1, _, _, rfl, rfl, by go_num, by omega, HMB2, Lib.hid (by rw [HMC2.out]; exact HO9.out)⟩, ?_⟩
              simp [intOf]; omega
      · obtain rfl : k = m := by omega
        have htk : os.take k = os := List.take_of_length_le (by rw [HMM.out]; exact Nat.le_refl _)
        rw [htk] at hmb hown
        clear htk
        have hbad : (ba || mu) = bb := by
          have h := foldP_bad os false false
          rw [hmb.out, HBB2.out] at h
          simpa using h
        have HB8 : Hid (Below w.heap.size w wr) := Lib.hid (bel_trans HB7.out hown.out.2.1)
        have HXr := Lib.hid (HX8.out.below hown.out.2.1); have HPr := Lib.hid (HP8.out.below hown.out.2.1)
        have HOWN := hown
        cases bb with
        | true =>
          have e7 : E1 = 7 := by rw [← HE1.out]; rfl
          subst e7
          clear hE7 hmb hown
          cases ba <;> cases mu
          · cases hbad
          all_goals
            go_wp2
            go_ret
            exact ⟨rfl, HB8.out⟩
        | false =>
          have e0 : E1 = 0 := by rw [← HE1.out]; rfl
          subst e0
          have hQ : pkHead h os d = Q := by rw [← HQ.out]; rfl
          have hDQ : D = DQ := by rw [← HDQ.out]; rfl
          have hlo : wantO os = lo := by rw [← HLO.out]; rfl
          subst hDQ
          obtain ⟨rfl, rfl⟩ : ba = false ∧ mu = false := by cases ba <;> cases mu <;> simp_all
          rw [hlo] at hown HOWN HWLL HWD
          have R := HR.out
          -- numbers
          have hQo : Q.off = ((offN h os : Nat) : Int) := by rw [← hQ]; rfl
          have hQt : Q.type = h.type := by rw [← hQ]; rfl
          have hQx : Q.x = h.x := by rw [← hQ]; rfl
          have hQc : Q.cs = h.cs := by rw [← hQ]; rfl
          have hQe : ({ h with off := Q.off, sum := Q.sum } : Hd) = Q := by rw [← hQ]; rfl
          have hsm := HSM.out
          have hlen := HLEN.out
          have hqz := hqs.out
          have hDs := HDS.out
          obtain ⟨u, hu⟩ : ∃ u : Nat, (getCov (pkBytes h os d)).toNat = u := ⟨_, rfl⟩
          have hcu : covI ((q0.size : Nat) : Int) (4 * Q.off) Q.cs = (u : Int) ∧ covB ((q0.size : Nat) : Int) (4 * Q.off) Q.cs = true ∧ u ≤ (pkBytes h os d).length := by
            have hc := R.cov
            rw [R.hd, R.off, hQ] at hc
            have e4 : 4 * Q.off = ((4 * offN h os : Nat) : Int) := by omega
            rw [hqz, e4]
            refine ⟨?_, hc, ?_⟩
            · rw [← hu]
              unfold getCov
              rw [R.hd, R.off, hQ]
              obtain ⟨a1, a2, a3⟩ := cov_parts hc
              omega
            · rw [← hu]; have := R.covN; rw [hlen]; omega
          have HCV : Hid (∀ W, Calls Tryz.prog 42 #[.int .i64 ((q0.size : Nat) : Int), .int .i64 (4 * Q.off), .int .i64 Q.cs] W fun e w' => e = .returned (.tuple #[.int .i64 (u : Int), .bool true]) ∧ W = w') := Lib.hid (fun W => by
            have hm := (mayB_bounds (putErr_zero HN.out).1).2.2.2.2.1
            have hm2 : h.bare.cs = h.cs := rfl
            rw [hm2] at hm
            have hh := refCovered_any ((q0.size : Nat) : Int) (4 * Q.off) Q.cs (by omega) (by omega) (by omega) (by omega) (by omega) (by omega) W
            rw [hcu.1, hcu.2.1] at hh
            exact hh)
          obtain ⟨Z, hZ⟩ : ∃ Z, str ((pkBytes h os d).take u) = Z := ⟨_, rfl⟩
          have hrun : ∀ W : World, (Instr.slice 9 (.string q0) none (some (.int .i64 (u : Int))) none).run Tryz.prog W = .ok (.string Z) W := fun W => by
            rw [run_slice_string_h W 9 q0 Tryz.underlying9 .i64 u (by omega) (by omega)]
            have hx := str_extract (pkBytes h os d) 0 u
            rw [HQ0.out, List.drop_zero, hZ] at hx
            exact congrArg (fun z => Result.ok (Value.string z) W) hx
          have HSUM : Hid (∀ W, Calls Tryz.prog 44 #[.string Z] W fun e w' => e = .returned (.int .i64 0) ∧ W = w') := Lib.hid (fun W => by
            have hh := refSum_any Z (by rw [← hZ, str_size, List.length_take]; omega) W
            have e : M.sum16 Z.data.toList = 0 := by
              have := R.sum
              rw [hu] at this
              rw [← hZ]; exact this
            rw [e] at hh
            exact hh)
          obtain ⟨PO, hPO⟩ : ∃ PO, str (M.putOpts os) = PO := ⟨_, rfl⟩
          have hPOs : PO.size = (M.putOpts os).length := by rw [← hPO]; rfl
          have HRP : Hid (∀ W, Below w.heap.size w W → Calls Tryz.prog 41 #[.slice p' k vc] W fun e w' => e = .returned (.string PO) ∧ Below W.heap.size W w') := Lib.hid (fun W hb => by
            have hh := refPutOpts_any W _ os (HOS.out.below hb) HALL.out (by rw [HMM.out]; omega)
            rw [hPO, HMM.out] at hh
            exact hh)
          have HSZ := Lib.hid (fun W => refSize_any Q.type Q.x W)
          have hfour := R.four
          rw [← hQt, ← hQx] at hfour
          obtain ⟨S, hS⟩ : ∃ S, sizeN Q.type Q.x = S := ⟨_, rfl⟩
          rw [hS] at HSZ hfour
          have HOPS : Hid (∀ W, Below wr.heap.size wr W → Calls Tryz.prog 43 #[.slice pp lo.length cap, u11] W fun e w' => e = .returned (.bool true) ∧ ∃ n, w' = W.drewN n) := Lib.hid (fun W hb =>
            opts_same W _ _ lo ((HO7.out.below HOWN.out.2.1).below hb) ((HOWN.out.kept hb).at (by have := HWLL.out; omega) HWD.out))
          have HEQ : Hid (∀ W, Below wr.heap.size wr W → Calls Tryz.prog 45 #[Pv Q (.slice pp lo.length cap) D, Pv Q (.slice pp lo.length cap) D] W fun e w' => e = .returned (.bool true) ∧ Below W.heap.size W w') := Lib.hid (fun W hb =>
            pktEq_same Q pp cap lo D W ((HO7.out.below HOWN.out.2.1).below hb))
          have tA : (4 * Q.off == (S : Int) + ((PO.size : Nat) : Int)) = true := by rw [beq_iff_eq]; omega
          have tB : (((q0.size : Nat) : Int) == 4 * Q.off + ((D.size : Nat) : Int)) = true := by rw [beq_iff_eq]; omega
          have hQb : 0 ≤ Q.off ∧ Q.off ≤ 255 := by omega
          have hqb : q0.size ≤ 2500 := by omega
          have hDb : D.size ≤ 1400 := by omega
          have hSb : S ≤ 28 := by rw [← hS]; exact sizeN_le _ _
          have hPb : PO.size ≤ 1020 := by omega
          have hez : ∀ w : World, (binOp .eql 26 Q.val Q.val).run Tryz.prog w = .ok (.bool true) w := fun w => by
            have := eqlHd Q Q w
            rw [(Hd.eqB_iff Q Q).2 rfl] at this
            exact this
          have hgz := fun op x y w => guardHd2 op x y Q Q w
          have HQE := Lib.hid hQe
          clear R hQ hlo hQo hQt hQx hQc hQe hsm hlen hqz hDs hu hcu hZ hPO hPOs hfour hS hmb hown hbad hE7
          go_upto_region 24 with (first
            | (refine load_mid rfl _ rfl B rfl _ _ _ HXr.out ?_)
            | (refine store_blk rfl _ _ rfl _ Hd.zero h rfl rfl (hd_new _) ?_; intro W9 hc9 hg9))
          have hb9 : Below wr.heap.size wr W9 := (bel_alloc wr _).grown hg9 (by simp) (fun k hk => by cases hk; exact Nat.le_refl _)
          have hwr : w.heap.size ≤ wr.heap.size := HB8.out.size
          have hx9 := HXr.out.below hb9
          have hp9 := HPr.out.below hb9
          have hKC : K ≠ wr.heap.size := by have := HPr.out.lt; omega
          have hBC : B ≠ wr.heap.size := by have := HXr.out.lt; omega
          obtain ⟨C, hC⟩ : ∃ C, C = wr.heap.size := ⟨_, rfl⟩
          rw [← hC] at hc9 hKC hBC ⊢
          have k2 := hp9.range 2 (.int .i64 Q.off) rfl
          have k5 := hp9.range 5 (.int .i64 Q.sum) rfl
          rw [Nat.zero_add] at k2 k5
          have c2 := hc9.at_.2.2.1
          have c5 := hc9.at_.2.2.2.2.2.1
          have f2 := hc9.free 2
          have f5 := hc9.free 5
          have HC9 := Lib.hid hc9; have HB9 := Lib.hid hb9; have HX9 := Lib.hid hx9; have HP9 := Lib.hid hp9
          have HCC := Lib.hid hC
          clear hc9 hb9 hx9 hp9 hg9 HXr HPr hC
          obtain ⟨W10, hW10⟩ : ∃ W, W = ((W9.setCell ⟨C, 2, none⟩ (.int .i64 Q.off)).setCell ⟨C, 5, none⟩ (.int .i64 Q.sum)).drew := ⟨_, rfl⟩
          have hc10 : HdBlk Q C W10 := by
            have := (HC9.out.set { h with off := Q.off } 2 (.int .i64 Q.off) rfl).set { h with off := Q.off, sum := Q.sum } 5 (.int .i64 Q.sum) rfl
            rw [HQE.out] at this
            rw [hW10]; exact this
          have hx10 : PkBlk h (.slice p' k vc) D B W10 := by
            rw [hW10]
            have t : PkBlk h (.slice p' k vc) D B ((W9.setCell ⟨C, 2, none⟩ (.int .i64 Q.off)).setCell ⟨C, 5, none⟩ (.int .i64 Q.sum)) := (HX9.out.other (grown_set W9 C 2 (.int .i64 Q.off)) (by simp; exact hBC)).other (grown_set (W9.setCell ⟨C, 2, none⟩ (.int .i64 Q.off)) C 5 (.int .i64 Q.sum)) (fun e => hBC (Option.some.inj e))
            exact t
          have hp10 : PkBlk Q (.slice pp lo.length cap) D K W10 := by
            rw [hW10]
            have t : PkBlk Q (.slice pp lo.length cap) D K ((W9.setCell ⟨C, 2, none⟩ (.int .i64 Q.off)).setCell ⟨C, 5, none⟩ (.int .i64 Q.sum)) := (HP9.out.other (grown_set W9 C 2 (.int .i64 Q.off)) (by simp; exact hKC)).other (grown_set (W9.setCell ⟨C, 2, none⟩ (.int .i64 Q.off)) C 5 (.int .i64 Q.sum)) (fun e => hKC (Option.some.inj e))
            exact t
          have hb10 : Below wr.heap.size wr W10 := by
            rw [hW10]
            exact ((HB9.out.setCell (p := ⟨C, 2, none⟩) (by rw [← HCC.out]; exact Nat.le_refl _) (.int .i64 Q.off)).setCell (p := ⟨C, 5, none⟩) (by rw [← HCC.out]; exact Nat.le_refl _) (.int .i64 Q.sum)).drew
          have HC10 := Lib.hid hc10; have HX10 := Lib.hid hx10; have HP10 := Lib.hid hp10; have HB10 := Lib.hid hb10
          have HW10 := Lib.hid hW10
          clear hc10 hx10 hp10 hb10 hW10
          go_region
          all_goals
            rw [← HW10.out]
            have x15 := HX10.out.cells.1
            go_upto_region 26 with (go_at_call 41; (refine (HRP.out _ (bel_trans HB8.out HB10.out)).mono ?_); rintro e WB ⟨rfl, hbB⟩)
            have HB11 := Lib.hid (bel_trans HB10.out hbB)
            have hc11 := HC10.out.below hbB
            have hx11 := HX10.out.below hbB
            have hp11 := HP10.out.below hbB
            have d6 := hc11.at_.2.2.2.2.2.2.1
            have d7 := hc11.at_.2.2.2.2.2.2.2.1
            have d2 := hc11.at_.2.2.1
            have d4 := hc11.at_.2.2.2.2.1
            have HC11 := Lib.hid hc11; have HP11 := Lib.hid hp11; have HX11 := Lib.hid hx11
            clear x15 k2 k5 c2 c5 f2 f5 hc11 hx11 hp11 hbB
            go_upto_region 28 with (first
              | (go_at_call 24; (with_reducible refine (HSZ.out _).mono ?_); rintro e w1 ⟨rfl, rfl⟩)
              | (go_at_call 42; (with_reducible refine (HCV.out _).mono ?_); rintro e w1 ⟨rfl, rfl⟩))
            have k16 := HP11.out.cells.2
            have b16 := HX11.out.cells.2
            have k15 := HP11.out.cells.1
            have k16n : ∀ n, (WB.drewN n).cell? ⟨K, 16, none⟩ = some (.string D) := fun n => HP11.out.cells.2
            have b16n : ∀ n, (WB.drewN n).cell? ⟨B, 16, none⟩ = some (.string D) := fun n => HX11.out.cells.2
            clear d6 d7
            go_wp2_with (first
              | (refine load_mid_w rfl _ rfl K rfl _ _ _ HP11.out ?_)
              | (refine load_hd_w rfl _ rfl C rfl _ HC11.out ?_)
              | (go_at_call 43; (refine (HOPS.out _ HB11.out).mono ?_); rintro e w3 ⟨rfl, n3, rfl⟩)
              | (go_at_call 44; (with_reducible refine (HSUM.out _).mono ?_); rintro e w4 ⟨rfl, rfl⟩)
              | (refine load_pk_w rfl _ rfl K rfl _ _ _ (HP11.out.below (bel_drewN _ _)) ?_)
              | (go_at_call 45; (refine (HEQ.out _ (bel_trans HB11.out (bel_drewN _ _))).mono ?_); rintro e w5 ⟨rfl, hb5⟩))
            go_ret
            exact ⟨rfl, bel_trans HB8.out (bel_trans HB11.out (bel_trans (bel_drewN _ _) hb5))⟩
  · have t1 : ((n : Int) == 0) = false := by rw [beq_eq_false_iff_ne]; omega
    have t2 : ((n : Int) != 0) = true := by rw [bne_iff_ne]; omega
    have t3 : ((n : Int) != (n : Int)) = false := by simp
    obtain rfl := HLN.out hn0
    have t4 : str [] = ⟨#[]⟩ := rfl
    rw [t4]
    go_wp2
    go_ret
    exact ⟨rfl, HBL3.out⟩
end Go.Proofs.YtjbcjcfmjagbkaaGreatDoor
