/-
  The law OptAll: its pieces.
-/
import Derived.Test.YtdlpapchjjbplaaGreatDoorLawSum
import Derived.Test.YtdlpapchjjbplaaGreatDoorRefOpt4
import Derived.Test.YtdlpapchjjbplaaGreatDoorOptMath2
import Derived.Test.YtdlpapchjjbplaaGreatDoorPktE
import Derived.Deep.QuietTactic
import Derived.BigQuiet
import Derived.Deep.DeepCutAuto
namespace Go.Proofs.YtdlpapchjjbplaaGreatDoor
open Go.ChangeShapes Go.WideShapes Go.ChangeAt Go.RowKit
set_option linter.unusedVariables false

def stepF (s : Bool × Bool) (o : M.Opt) : Bool × Bool := if o.t = 0 then s else (decide (o.t = 1), s.2 || (s.1 && decide (o.t = 1)))
theorem fold_bad (os : List M.Opt) : ∀ m b, ((os.foldl stepF (m, b)).2 || (os.foldl stepF (m, b)).1) = (b || badF m os) := by
  induction os with
  | nil => intro m b; rfl
  | cons o os ih =>
    intro m b
    rw [List.foldl_cons]
    unfold badF
    by_cases h0 : o.t = 0
    · rw [if_pos h0, show stepF (m, b) o = (m, b) from if_pos h0, ih]
    · rw [if_neg h0, show stepF (m, b) o = (decide (o.t = 1), b || (m && decide (o.t = 1))) from if_neg h0, ih]
      by_cases h1 : o.t = 1
      · cases m <;> cases b <;> simp [h1]
      · cases m <;> cases b <;> simp [h1]
theorem wantO_snoc (os : List M.Opt) (o : M.Opt) : wantO (os ++ [o]) = if o.t = 0 then wantO os else wantO os ++ [o] := by
  unfold wantO
  rw [List.filter_append]
  by_cases h0 : o.t = 0
  · rw [if_pos h0]; simp [h0]
  · rw [if_neg h0]; simp [h0]
theorem foldl_snoc (os : List M.Opt) (o : M.Opt) : (os ++ [o]).foldl stepF (false, false) = stepF (os.foldl stepF (false, false)) o := by rw [List.foldl_append]; rfl

theorem opts_nilAt (W : World) : OptsAt W (.slice none 0 0) [] := ⟨.inl ⟨rfl, none, 0, rfl⟩, by simp, by simp⟩
/-- What a reading of options gives, found or not. -/
def gotE (r : Option (List M.Opt)) : Int := match r with
  | some _ => 0
  | none => 7
theorem get_uni (l : List UInt8) (hl : l.length ≤ 1073741824) (W : World) :
    Calls Tryz.prog 33 #[.string (str l)] W fun e w' => ∃ p c, e = .returned (.tuple #[.slice p ((M.getOpts l).getD []).length c, .int .i64 (gotE (M.getOpts l))]) ∧ OptsAt w' (.slice p ((M.getOpts l).getD []).length c) ((M.getOpts l).getD []) ∧ Below W.heap.size W w' := by
  cases h : M.getOpts l with
  | none => exact (optGet_no hl h W).mono fun e w' hh => ⟨none, 0, hh.1, opts_nilAt w', hh.2⟩
  | some os =>
    have hb := getOpts_bound h
    refine (optGet_yes hl h W).mono fun e w' ⟨p, n, c, he, ho⟩ => ?_
    have hat := ho.at (by omega) (fun o ho => by have := hb.2 o ho; unfold maxLen; omega)
    obtain ⟨p', c', e1, _⟩ := hat.parts
    injection e1 with e1 e2 e3
    subst e1 e2 e3
    exact ⟨p, c, he, hat, ho.2.1⟩
theorem refGet_uni (l : List UInt8) (hl : l.length ≤ 1073741824) (W : World) :
    Calls Tryz.prog 34 #[.string (str l)] W fun e w' => ∃ p c, e = .returned (.tuple #[.slice p ((M.getOpts l).getD []).length c, .int .i64 (gotE (M.getOpts l))]) ∧ OptsAt w' (.slice p ((M.getOpts l).getD []).length c) ((M.getOpts l).getD []) ∧ Below W.heap.size W w' := by
  refine (refGetOpts_any l hl W).mono ?_
  rintro e w' ⟨hb, hm⟩
  cases h : M.getOpts l with
  | none =>
    rw [h] at hm
    exact ⟨none, 0, hm, opts_nilAt w', hb⟩
  | some os =>
    rw [h] at hm
    obtain ⟨v, he, ho⟩ := hm
    have hbd := getOpts_bound h
    have hat := ho.at (by omega) (fun o ho => by have := hbd.2 o ho; unfold maxLen; omega)
    obtain ⟨p', c', e1, _⟩ := hat.parts
    subst e1
    exact ⟨p', c', he, hat, ho.2.1⟩

theorem find_step (os : List M.Opt) (t : Int) (k : Nat) (ok : M.Opt) (hgk : os = os.take k ++ ok :: os.drop (k + 1)) (hts : os.take (k + 1) = os.take k ++ [ok]) (hn : findO (os.take k) t = none) :
    (ok.t = t → findO os t = some ok.d) ∧ (ok.t ≠ t → findO (os.take (k + 1)) t = none) := by
  unfold findO at hn
  rw [Option.map_eq_none_iff] at hn
  have h1 : os.find? (fun o => decide (o.t = t)) = (ok :: os.drop (k + 1)).find? (fun o => decide (o.t = t)) := by
    conv => lhs; rw [hgk]
    rw [List.find?_append, hn]; rfl
  have h2 : (os.take (k + 1)).find? (fun o => decide (o.t = t)) = [ok].find? (fun o => decide (o.t = t)) := by
    rw [hts, List.find?_append, hn]; rfl
  refine ⟨fun e => ?_, fun e => ?_⟩
  · unfold findO; rw [h1, List.find?_cons_of_pos (by simpa using e)]; rfl
  · unfold findO; rw [h2, List.find?_cons_of_neg (by simpa using e)]; rfl

/-- Two cells beside each other, while memory is made. -/
def CS2 (w : World) (b i : Nat) (x y : Value) (W : World) : Prop := W.cell? ⟨b, i, none⟩ = some x ∧ W.cell? ⟨b, i + 1, none⟩ = some y ∧ b < W.heap.size ∧ Below w.heap.size w W
theorem CS2.s {w W : World} {b i : Nat} {x y : Value} (h : CS2 w b i x y W) : CS2 w b i x y W ∧ W.cell? ⟨b, i, none⟩ = some x ∧ W.cell? ⟨b, i + 1, none⟩ = some y := ⟨h, h.1, h.2.1⟩
theorem CS2.drew {w W : World} {b i : Nat} {x y : Value} (h : CS2 w b i x y W) : CS2 w b i x y W.drew := ⟨h.1, h.2.1, h.2.2.1, h.2.2.2.drew⟩
theorem CS2.below {w W W' : World} {b i : Nat} {x y : Value} (h : CS2 w b i x y W) (hb : Below W.heap.size W W') : CS2 w b i x y W' :=
  ⟨by rw [hb.cell (p := ⟨b, i, none⟩) h.2.2.1]; exact h.1, by rw [hb.cell (p := ⟨b, i + 1, none⟩) h.2.2.1]; exact h.2.1, Nat.lt_of_lt_of_le h.2.2.1 hb.size, bel_trans h.2.2.2 hb⟩

set_option maxHeartbeats 16000000 in
set_option maxRecDepth 100000 in
theorem optAll_walk (p : Option Addr) (n cap : Nat) (os : List M.Opt) (s : ByteArray) (t : Int) (hs : s.size ≤ maxLen) (hn : n ≤ 9223372036854775807) (hcap : n ≤ cap) (hcap2 : cap ≤ 9223372036854775807) (hos : os = os.take 8) (hlen : os.length = min n 8) (w : World)
    (hat : OptsAt w (.slice p os.length cap) os) :
    Calls Tryz.prog 6 #[.slice p n cap, .string s, .int .i64 t] w fun e w' => e = .returned (.bool true) ∧ Below w.heap.size w w' := by
  obtain ⟨l, hl, hll⟩ : ∃ l, s.data.toList.take 60 = l ∧ l.length ≤ 60 := ⟨_, rfl, by simp; omega⟩
  have HT : Hid (∀ w : World, Calls Tryz.prog 16 #[.string s, .int .i64 60] w fun e w' => e = .returned (.string (str l)) ∧ w' = w) := Lib.hid (fun w => (textN_any s 60 60 l rfl (by omega) hs hl w).mono fun e w' h => ⟨h.1, h.2.symm⟩)
  have HG1 := Lib.hid (fun W => get_uni l (by omega) W)
  have HG2 := Lib.hid (fun W => refGet_uni l (by omega) W)
  generalize (M.getOpts l).getD [] = lo at *
  generalize gotE (M.getOpts l) = E1 at *
  obtain ⟨bl, hbl⟩ : ∃ b, str l = b := ⟨_, rfl⟩
  rw [hbl] at HT HG1 HG2
  obtain ⟨m, hm⟩ : ∃ m, os.length = m := ⟨_, rfl⟩
  have hmin : min (n : Int) 8 = (m : Int) := by omega
  have hm8 : m ≤ 8 := by omega
  have hmc : m ≤ cap := by omega
  have hdat : ∀ o ∈ os, o.d.length ≤ maxLen := hat.data
  obtain ⟨p', cap', he', hp'⟩ := hat.parts
  have hpp : p' = p := by injection he' with e1 _ _; exact e1.symm
  subst hpp
  have HP := Lib.hid hp'
  have HDAT := Lib.hid hdat
  have HAT := Lib.hid hat
  have HMM := Lib.hid hm
  rw [hm] at HAT HP
  clear he' hp' hdat
  clear hl hs hll hbl hos hlen hat hm
  go_enter Tryz.func6, Tryz.ntmps6
  go_upto_region 4 with (first
    | (go_at_call 15; refine (begun_any _).mono ?_; rintro e w0 ⟨rfl, hb0⟩))
  have HB0 := Lib.hid hb0
  clear hb0
  go_quiet ((go_at_call 16; exact Calls.quiet_of_same (HT.out _)))
  have HB1 : Hid (Below w.heap.size w (w0.drewN nq)) := Lib.hid (bel_trans HB0.out (bel_drewN _ _))
  generalize w0.drewN nq = w1 at *
  clear hmin
  go_upto_region 7 with (first
    | (go_at_call 33; (with_reducible refine (HG1.out _).mono ?_); rintro e w2 ⟨p2, c2, rfl, ho2, hb2⟩)
    | (go_at_call 34; (with_reducible refine (HG2.out _).mono ?_); rintro e w3 ⟨p3, c3, rfl, ho3, hb3⟩))
  have HOS := Lib.hid (opts_same w3 _ _ lo (ho2.below hb3) ho3)
  have HB3 : Hid (Below w.heap.size w w3) := Lib.hid (bel_trans HB1.out (bel_trans hb2 hb3))
  clear ho2 ho3 hb2 hb3
  go_wp2_with (go_at_call 35; (with_reducible refine HOS.out.mono ?_); rintro e w4 ⟨rfl, n4, rfl⟩)
  have HB4 : Hid (Below w.heap.size w (w3.drewN n4)) := Lib.hid (bel_trans HB3.out (bel_drewN _ _))
  generalize w3.drewN n4 = w5 at *
  have HNIL := Lib.hid (OptsOwn.nil w5)
  go_loopw [12, 13, 14, 15, 52] (fun a b c v i wr => ∃ (k : Nat) (ma mu ba : Bool), a = .bool ma ∧ b = .bool mu ∧ c = .bool ba ∧ i = .int .i64 (k : Int) ∧ k ≤ m ∧ Hid ((os.take k).all M.optMay = ma) ∧ Hid ((os.take k).foldl stepF (false, false) = (mu, ba)) ∧ Hid (OptsOwn w5.heap.size v (wantO (os.take k)) w5 wr)) (fun _ _ _ _ i _ => m - (intOf i).toNat)
  case atStart => exact ⟨0, true, false, false, rfl, rfl, rfl, rfl, by omega, Lib.hid rfl, Lib.hid rfl, HNIL⟩
  case round =>
    obtain ⟨k, ma, mu, ba, rfl, rfl, rfl, rfl, hk, hma, hmb, hown⟩ := hrel
    by_cases hkm : k < m
    · obtain ⟨b, o, rfl, hbl, c1, d1⟩ := HP.out k hkm
      have hbw : Below w.heap.size w wr := bel_trans HB4.out hown.out.2.1
      have HPC := Lib.hid (And.intro (And.intro c1 d1) hbl)
      rw [← hbw.cell (p := ⟨b, o + k * 2, none⟩) hbl] at c1
      rw [← hbw.cell (p := ⟨b, o + k * 2 + 1, none⟩) hbl] at d1
      have hbr : b < wr.heap.size := Nat.lt_of_lt_of_le hbl hbw.size
      have hts := take_snocO os k (by rw [HMM.out]; exact hkm)
      have hdk : (os.getD k ⟨0, []⟩).d.length ≤ maxLen := by
        have hkl : k < os.length := by rw [HMM.out]; exact hkm
        rw [List.getD_eq_getElem?_getD, List.getElem?_eq_getElem hkl]
        exact HDAT.out _ (List.getElem_mem hkl)
      generalize os.getD k ⟨0, []⟩ = ok at *
      have hdk2 : ok.d.length ≤ 9223372036854775807 := by unfold maxLen at hdk; omega
      have HMA : Hid ((os.take (k + 1)).all M.optMay = (ma && M.optMay ok)) := Lib.hid (by rw [hts, List.all_append, hma.out]; simp)
      have HMB : Hid ((os.take (k + 1)).foldl stepF (false, false) = stepF (mu, ba) ok) := Lib.hid (by rw [hts, foldl_snoc, hmb.out])
      have HMC : Hid (wantO (os.take (k + 1)) = if ok.t = 0 then wantO (os.take k) else wantO (os.take k) ++ [ok]) := Lib.hid (by rw [hts, wantO_snoc])
      have HLW : Hid ((wantO (os.take k)).length ≤ 1073741824) := Lib.hid (by
        have h1 := List.length_filter_le (fun o : M.Opt => decide (o.t ≠ 0)) (os.take k)
        have h2 : (os.take k).length ≤ k := List.length_take_le _ _
        unfold wantO; omega)
      have HM1 := Lib.hid (fun W => optMay_any ok W hdk2)
      have HM2 := Lib.hid (fun W => refMayOpt_any ok hdk2 W)
      unfold Ov at HM1 HM2
      generalize hmo : M.optMay ok = mo at *
      obtain ⟨kt, kd⟩ := ok
      dsimp only at c1 d1 HMC HM1 HM2 HMB HPC
      obtain ⟨ds, hds⟩ : ∃ ds, str kd = ds := ⟨_, rfl⟩
      rw [hds] at d1 HM1 HM2 HPC
      have HDS := Lib.hid hds
      have HST : Hid (CS2 wr b (o + k * 2) (.int .i64 kt) (.string ds) wr) := Lib.hid ⟨c1, d1, hbr, Below.refl _ _⟩
      have HW : Hid (∀ W, Below w5.heap.size w5 W → W.cell? ⟨b, o + k * 2, none⟩ = some (.int .i64 kt) ∧ W.cell? ⟨b, o + k * 2 + 1, none⟩ = some (.string ds)) := Lib.hid (fun W hb => by
        obtain ⟨q1, q2⟩ := HPC.out
        have hbw := bel_trans HB4.out hb
        rw [hbw.cell (p := ⟨b, o + k * 2, none⟩) q2, hbw.cell (p := ⟨b, o + k * 2 + 1, none⟩) q2]
        exact q1)
      clear hts hdk hdk2 hmo hds hbl hbr hbw
      go_upto_region 16 with fail
      clear c1 d1
      go_region_held3 (fun W => CS2 wr b (o + k * 2) (.int .i64 kt) (.string ds) W ∧ W.cell? ⟨b, o + k * 2, none⟩ = some (.int .i64 kt) ∧ W.cell? ⟨b, o + k * 2 + 1, none⟩ = some (.string ds))
        (first | exact HST.out.s | exact HST.out.drew.s | exact (CS2.below (And.left ‹CS2 wr b (o + k * 2) (.int .i64 kt) (.string ds) _ ∧ _›) hbx).s)
        (first
        | (go_at_call 36; (with_reducible refine (HM1.out _).mono ?_); rintro e w6 ⟨rfl, hbx⟩)
        | (go_at_call 37; (with_reducible refine (HM2.out _).mono ?_); rintro e w7 ⟨rfl, hbx⟩))
      have hcs := ‹CS2 wr b (o + k * 2) (.int .i64 kt) (.string ds) w7 ∧ _›
      have HC7 := Lib.hid hcs.1
      have HX : Hid (CS2 wr b (o + k * 2) (.int .i64 kt) (.string ds) w7) := HC7
      clear hcs hbx
      clear hbx
      go_upto_region 18 with fail
      go_cut [12] (fun s12 wx => s12 = .bool (ma && mo) ∧ CS2 wr b (o + k * 2) (.int .i64 kt) (.string ds) wx)
      case first =>
        have c1 := HC7.out.1
        have d1 := HC7.out.2.1
        cases ma
        · go_wp2
          go_meet
          exact ⟨rfl, HC7.out⟩
        · go_wp2_with (go_at_call 37; (with_reducible refine (HM2.out _).mono ?_); rintro e w8 ⟨rfl, hb8⟩)
          go_meet
          exact ⟨rfl, HC7.out.below hb8⟩
      case rest =>
        obtain ⟨rfl, hcs⟩ := hcut
        have HCC := Lib.hid hcs
        have HOW : Hid (OptsOwn w5.heap.size u15 (wantO (os.take k)) w5 wc) := Lib.hid (hown.out.kept hcs.2.2.2)
        have c1 := hcs.1
        have d1 := hcs.2.1
        clear hcs
        by_cases h0 : kt = 0
        · subst h0
          have HMC2 : Hid (wantO (os.take (k + 1)) = wantO (os.take k)) := Lib.hid (by rw [HMC.out, if_pos rfl])
          have HMB2 : Hid ((os.take (k + 1)).foldl stepF (false, false) = (mu, ba)) := Lib.hid (by rw [HMB.out]; exact if_pos rfl)
          go_wp2
          refine ⟨⟨k + 1, _, mu, ba, rfl, rfl, rfl, by go_num, by omega, HMA, HMB2, Lib.hid (by rw [HMC2.out]; exact HOW.out)⟩, ?_⟩
          simp [intOf]; omega
        · have h0' : (kt != 0) = true := by rw [bne_iff_ne]; exact h0
          have HMC2 : Hid (wantO (os.take (k + 1)) = wantO (os.take k) ++ [⟨kt, kd⟩]) := Lib.hid (by rw [HMC.out, if_neg h0])
          have HMB2 : Hid ((os.take (k + 1)).foldl stepF (false, false) = (decide (kt = 1), ba || (mu && decide (kt = 1)))) := Lib.hid (by rw [HMB.out]; exact if_neg h0)
          clear h0
          go_upto_region 21 with (at_builtin; refine wp_opt rfl _ _ rfl _ _ (wantO (os.take k)) rfl w5 wc _ ⟨kt, kd⟩ (by unfold OvBox; rw [HDS.out]) HOW.out _ rfl rfl HLW.out ?_; intro v2 w9 hb9)
          obtain ⟨c2, d2⟩ := HW.out w9 hb9.2.1
          have HO9 := Lib.hid hb9
          clear c1 d1 hb9
          by_cases h1 : kt = 1
          · subst h1
            have e1 : decide ((1 : Int) = 1) = true := rfl
            rw [e1] at HMB2
            clear e1 h0'
            cases ba <;> cases mu
            all_goals
              go_wp2
              refine ⟨⟨k + 1, _, _, _, rfl, rfl, rfl, by go_num, by omega, HMA, HMB2, Lib.hid (by rw [HMC2.out]; exact HO9.out)⟩, ?_⟩
              simp [intOf]; omega
          · have h1' : (kt == 1) = false := by rw [beq_eq_false_iff_ne]; exact h1
            rw [decide_eq_false h1] at HMB2
            clear h1 h0'
            cases ba <;> cases mu
            all_goals
              go_wp2
              refine ⟨⟨k + 1, _, _, _, rfl, rfl, rfl, by go_num, by omega, HMA, HMB2, Lib.hid (by rw [HMC2.out]; exact HO9.out)⟩, ?_⟩
              simp [intOf]; omega
    · obtain rfl : k = m := by omega
      have htk : os.take k = os := List.take_of_length_le (by rw [HMM.out]; exact Nat.le_refl _)
      rw [htk] at hma hmb hown
      clear htk
      have HPUT : Hid (Calls Tryz.prog 38 #[.slice p' k cap] wr fun e w' => e = .returned (.string (str (M.putOpts os))) ∧ Below wr.heap.size wr w') := Lib.hid (optPut_at (HAT.out.below (bel_trans HB4.out hown.out.2.1 |>.mono (Nat.le_refl _))))
      have HBR : Hid (Below w.heap.size w wr) := Lib.hid (bel_trans HB4.out hown.out.2.1)
      cases ma
      · have hz : M.putOpts os = [] := by unfold M.putOpts; rw [if_neg (by rw [hma.out]; decide)]
        have hz2 : str (M.putOpts os) = ⟨#[]⟩ := by rw [hz]; rfl
        rw [hz2] at HPUT
        clear hz hz2
        go_wp2_with (go_at_call 38; (with_reducible refine HPUT.out.mono ?_); rintro e w6 ⟨rfl, hb6⟩)
        go_ret
        exact ⟨rfl, bel_trans HBR.out hb6⟩
      · have hbad : (ba || mu) = badF false os := by
          have h := fold_bad os false false
          rw [hmb.out] at h
          simpa using h
        have hget := get_put os hma.out
        rw [← hbad] at hget
        have hlen8 : os.length ≤ 8 := by rw [HMM.out]; exact hm8
        have hsm : (M.putOpts os).length ≤ 1073741824 := by
          have h1 := M.optsBytes_len os hma.out
          have h2 := M.pad4_len (M.optsBytes os)
          unfold M.putOpts; rw [if_pos hma.out]; omega
        have HG3 := Lib.hid (fun W => get_uni (M.putOpts os) hsm W)
        have HRP : Hid (∀ W, Below w.heap.size w W → Calls Tryz.prog 39 #[.slice p' k cap] W fun e w' => e = .returned (.string (str (M.putOpts os))) ∧ Below W.heap.size W w') := Lib.hid (fun W hb => refPutOpts_any W _ os (HAT.out.below hb) hma.out (by omega))
        obtain ⟨ps, hps⟩ : ∃ b, str (M.putOpts os) = b := ⟨_, rfl⟩
        rw [hget, hps] at HG3
        rw [hps] at HPUT HRP
        have HWL : Hid ((wantO os).length ≤ 1073741824 ∧ ∀ o ∈ wantO os, o.d.length ≤ maxLen) := Lib.hid (by
          refine ⟨?_, fun o ho => HDAT.out o ?_⟩
          · have h1 := List.length_filter_le (fun o : M.Opt => decide (o.t ≠ 0)) os
            unfold wantO; omega
          · unfold wantO at ho; exact (List.mem_filter.1 ho).1)
        clear hps hsm hget hbad hlen8 hm8 hmc
        cases hbm : (ba || mu) with
        | true =>
          rw [hbm] at HG3
          have HG4 : Hid (∀ W : World, Calls Tryz.prog 33 #[.string ps] W fun e w' => ∃ p c, e = .returned (.tuple #[.slice p 0 c, .int .i64 7]) ∧ Below W.heap.size W w') := Lib.hid (fun W => (HG3.out W).mono fun e w' ⟨p, c, h1, h2, h3⟩ => ⟨p, c, h1, h3⟩)
          go_upto_region 28 with (first
            | (go_at_call 38; (with_reducible refine HPUT.out.mono ?_); rintro e w6 ⟨rfl, hb6⟩)
            | (go_at_call 33; (with_reducible refine (HG4.out _).mono ?_); rintro e w7 ⟨p7, c7, rfl, hb7⟩))
          have hbw7 : Below w.heap.size w w7 := bel_trans HBR.out (bel_trans hb6 hb7)
          have HB7 := Lib.hid hbw7
          clear hb6 hb7 hbw7
          cases ba <;> cases mu
          · cases hbm
          all_goals
            clear hbm
            go_wp2_with (go_at_call 39; (refine (HRP.out _ ?_).mono ?_; (first | exact hacc | exact HB7.out)); rintro e w8 ⟨rfl, hb8⟩; have hacc : Below w.heap.size w w8 := bel_trans (by first | exact hacc | exact HB7.out) hb8)
            go_ret
            exact ⟨rfl, hacc⟩
        | false =>
          rw [hbm] at HG3
          obtain ⟨rfl, rfl⟩ : ba = false ∧ mu = false := by cases ba <;> cases mu <;> simp_all
          clear hbm
          have HOWN := Lib.hid hown.out
          have HATW : Hid (∀ W, Below wr.heap.size wr W → OptsAt W u15 (wantO os)) := Lib.hid (fun W hb => (HOWN.out.kept hb).at HWL.out.1 HWL.out.2)
          have HG4 : Hid (∀ W : World, Calls Tryz.prog 33 #[.string ps] W fun e w' => ∃ p c, e = .returned (.tuple #[.slice p (wantO os).length c, .int .i64 0]) ∧ OptsAt w' (.slice p (wantO os).length c) (wantO os) ∧ Below W.heap.size W w') := HG3
          have HU : Hid (∃ q c, u15 = .slice q (wantO os).length c) := Lib.hid (by
            obtain ⟨q, c, e, _⟩ := (HATW.out wr (Below.refl _ _)).parts
            exact ⟨q, c, e⟩)
          clear hma hmb hown
          generalize wantO os = wo at *
          obtain ⟨q, cq, rfl⟩ := HU.out
          go_upto_region 28 with (first
            | (go_at_call 38; (with_reducible refine HPUT.out.mono ?_); rintro e w6 ⟨rfl, hb6⟩)
            | (go_at_call 33; (with_reducible refine (HG4.out _).mono ?_); rintro e w7 ⟨p7, c7, rfl, ho7, hb7⟩))
          have HB7 : Hid (Below w.heap.size w w7) := Lib.hid (bel_trans HBR.out (bel_trans hb6 hb7))
          have HBW7 : Hid (Below wr.heap.size wr w7) := Lib.hid (bel_trans hb6 hb7)
          have HO7 := Lib.hid ho7
          clear hb6 hb7 ho7
          have HOS : Hid (∀ W, Below w7.heap.size w7 W → Calls Tryz.prog 35 #[.slice p7 wo.length c7, .slice q wo.length cq] W fun e w' => e = .returned (.bool true) ∧ ∃ n, w' = W.drewN n) := Lib.hid (fun W hb => opts_same W _ _ wo (HO7.out.below hb) (HATW.out W (bel_trans HBW7.out hb)))
          go_upto_region 32 with (first
            | (go_at_call 39; (refine (HRP.out _ ?_).mono ?_; exact HB7.out); rintro e w8 ⟨rfl, hb8⟩)
            | (go_at_call 35; (refine (HOS.out _ ?_).mono ?_; exact hb8); rintro e w9 ⟨rfl, n9, rfl⟩))
          have HB9 : Hid (Below w7.heap.size w7 (w8.drewN n9)) := Lib.hid (bel_trans hb8 (bel_drewN _ _))
          generalize w8.drewN n9 = w9 at *
          clear hb8
          have HFI := Lib.hid (find_any w9 _ wo t (HO7.out.below HB9.out))
          obtain ⟨pq, cq', hq', hpq⟩ := (HATW.out w9 (bel_trans HBW7.out HB9.out)).parts
          have hqq : pq = q := by injection hq' with e1 _ _; exact e1.symm
          subst hqq
          have HPQ := Lib.hid hpq
          clear hq' hpq
          cases hf : findO wo t with
          | none =>
            have hfv : findV wo t = .tuple #[.string ⟨#[]⟩, .bool false] := by unfold findV; rw [hf]
            rw [hfv] at HFI
            have HF := Lib.hid hf
            clear hf hfv
            go_wp2_with (go_at_call 40; (with_reducible refine HFI.out.mono ?_); rintro e wa ⟨rfl, hba⟩)
            have HFIN : Hid (Below w.heap.size w wa) := Lib.hid (bel_trans HB7.out (bel_trans HB9.out hba))
            have HBA := Lib.hid hba
            clear hba
            have hwlen : wo.length ≤ 1073741824 := HWL.out.1
            go_loop [156] (fun i => ∃ k2 : Nat, i = .int .i64 (k2 : Int) ∧ k2 ≤ wo.length ∧ Hid (findO (wo.take k2) t = none)) (fun i => wo.length - (intOf i).toNat)
            case atStart => exact ⟨0, rfl, Nat.zero_le _, Lib.hid rfl⟩
            case round =>
              obtain ⟨k2, rfl, hk2, hnone⟩ := hrel
              by_cases hkn : k2 < wo.length
              · obtain ⟨b, o, rfl, hbl, c1, d1⟩ := HPQ.out k2 hkn
                rw [← HBA.out.cell (p := ⟨b, o + k2 * 2, none⟩) hbl] at c1
                rw [← HBA.out.cell (p := ⟨b, o + k2 * 2 + 1, none⟩) hbl] at d1
                have hts := take_snocO wo k2 hkn
                generalize wo.getD k2 ⟨0, []⟩ = ok at *
                have hgk : wo = wo.take k2 ++ ok :: wo.drop (k2 + 1) := by
                  conv => lhs; rw [← List.take_append_drop (k2 + 1) wo, hts, List.append_assoc]
                  rfl
                obtain ⟨f1, f2⟩ := find_step wo t k2 ok hgk hts hnone.out
                have F1 := Lib.hid f1; have F2 := Lib.hid f2
                obtain ⟨kt, kd⟩ := ok
                dsimp only at c1 d1
                clear hts hgk f1 f2 hbl
                by_cases he : kt = t
                · subst he
                  have hfo := F1.out rfl
                  rw [HF.out] at hfo
                  cases hfo
                · have he' : (kt == t) = false := by rw [beq_eq_false_iff_ne]; exact he
                  have HN2 := Lib.hid (F2.out he)
                  have HK3 := Lib.hid (show k2 + 1 ≤ wo.length from hkn)
                  clear he
                  go_wp2
                  go_round
                  case rel => exact ⟨k2 + 1, by go_num, HK3.out, HN2⟩
                  case measure => have := HK3.out; simp [intOf]; omega
              · obtain rfl : k2 = wo.length := by omega
                have hn := hnone.out
                rw [List.take_length, HF.out] at hn
                clear hn
                go_wp2
                go_ret
                exact ⟨rfl, HFIN.out⟩
          | some d =>
            have hfv : findV wo t = .tuple #[.string (str d), .bool true] := by unfold findV; rw [hf]
            rw [hfv] at HFI
            have HF := Lib.hid hf
            obtain ⟨ds, hds⟩ : ∃ x, str d = x := ⟨_, rfl⟩
            rw [hds] at HFI
            have HDS := Lib.hid hds
            clear hf hfv hds
            go_wp2_with (go_at_call 40; (with_reducible refine HFI.out.mono ?_); rintro e wa ⟨rfl, hba⟩)
            have HFIN : Hid (Below w.heap.size w wa) := Lib.hid (bel_trans HB7.out (bel_trans HB9.out hba))
            have HBA := Lib.hid hba
            clear hba
            have hwlen : wo.length ≤ 1073741824 := HWL.out.1
            go_loop [156] (fun i => ∃ k2 : Nat, i = .int .i64 (k2 : Int) ∧ k2 ≤ wo.length ∧ Hid (findO (wo.take k2) t = none)) (fun i => wo.length - (intOf i).toNat)
            case atStart => exact ⟨0, rfl, Nat.zero_le _, Lib.hid rfl⟩
            case round =>
              obtain ⟨k2, rfl, hk2, hnone⟩ := hrel
              by_cases hkn : k2 < wo.length
              · obtain ⟨b, o, rfl, hbl, c1, d1⟩ := HPQ.out k2 hkn
                rw [← HBA.out.cell (p := ⟨b, o + k2 * 2, none⟩) hbl] at c1
                rw [← HBA.out.cell (p := ⟨b, o + k2 * 2 + 1, none⟩) hbl] at d1
                have hts := take_snocO wo k2 hkn
                generalize wo.getD k2 ⟨0, []⟩ = ok at *
                have hgk : wo = wo.take k2 ++ ok :: wo.drop (k2 + 1) := by
                  conv => lhs; rw [← List.take_append_drop (k2 + 1) wo, hts, List.append_assoc]
                  rfl
                obtain ⟨f1, f2⟩ := find_step wo t k2 ok hgk hts hnone.out
                have F1 := Lib.hid f1; have F2 := Lib.hid f2
                obtain ⟨kt, kd⟩ := ok
                dsimp only at c1 d1
                clear hts hgk f1 f2 hbl
                by_cases he : kt = t
                · subst he
                  have hfo := F1.out rfl
                  rw [HF.out] at hfo
                  injection hfo with hfo
                  rw [← show d = kd from hfo, HDS.out] at d1
                  clear hfo
                  go_wp2
                  go_ret
                  exact ⟨rfl, HFIN.out⟩
                · have he' : (kt == t) = false := by rw [beq_eq_false_iff_ne]; exact he
                  have HN2 := Lib.hid (F2.out he)
                  have HK3 := Lib.hid (show k2 + 1 ≤ wo.length from hkn)
                  clear he
                  go_wp2
                  go_round
                  case rel => exact ⟨k2 + 1, by go_num, HK3.out, HN2⟩
                  case measure => have := HK3.out; simp [intOf]; omega
              · obtain rfl : k2 = wo.length := by omega
                have hn := hnone.out
                rw [List.take_length, HF.out] at hn
                cases hn
end Go.Proofs.YtdlpapchjjbplaaGreatDoor
