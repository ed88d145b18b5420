/-
  The law SumAll, walked.
-/
import Derived.Test.YtdlpapchjjbplaaGreatDoorLawSum3
import Derived.Test.YtdlpapchjjbplaaGreatDoorOptD
import Derived.Deep.Cut
import Derived.Deep.CutBlock
import Derived.Deep.DeepCutAuto
namespace Go.Proofs.YtdlpapchjjbplaaGreatDoor
open Go.ChangeShapes Go.WideShapes Go.ChangeAt Go.RowKit
set_option linter.unusedVariables false

/-- A row of texts that the call owns from block B on; below B nothing has turned since W0. -/
def StrsOwn (B : Nat) (v : Value) (ss : List ByteArray) (W0 w : World) : Prop := w.ownsRow B 9 1 v ss.length (ss.map Value.string) ∧ Below B W0 w ∧ B ≤ w.heap.size
theorem StrsOwn.nil (w : World) : StrsOwn w.heap.size (.slice none 0 0) [] w w := ⟨World.ownsRow_nil _ _ _ _, Below.refl _ _, Nat.le_refl _⟩
theorem StrsOwn.lt {B : Nat} {v : Value} {ss : List ByteArray} {W0 w : World} (h : StrsOwn B v ss W0 w) : ∀ k, v.ownBlock = some k → B ≤ k ∧ k < w.heap.size := (World.ownsRowF_of h.1).lt
theorem StrsOwn.kept {B : Nat} {v : Value} {ss : List ByteArray} {W0 w w' : World} (h : StrsOwn B v ss W0 w) (hb : Below w.heap.size w w') : StrsOwn B v ss W0 w' := by
  refine ⟨h.1.kept (row := none) ⟨hb.os, hb.tape, hb.output, hb.size, fun k hk _ => hb.block k hk⟩ ?_, h.2.1.trans (hb.mono h.2.2), Nat.le_trans h.2.2 hb.size⟩
  cases v.ownBlock <;> simp
theorem StrsOwn.at {B : Nat} {v : Value} {ss : List ByteArray} {W0 w : World} (h : StrsOwn B v ss W0 w) (hl : ss.length ≤ 1073741824) (hd : ∀ s ∈ ss, s.size ≤ maxLen) (ht : (M.joined ss).length ≤ 17179869184) : StrsAt w v ss := by
  refine ⟨?_, by omega, hd, ht⟩
  rcases h.1.2 with ⟨rfl, h0⟩ | ⟨g, cap, cur, rfl, _, hg, _, _, _, ht⟩
  · exact .inl ⟨List.eq_nil_of_length_eq_zero h0, none, 0, rfl⟩
  · refine .inr ⟨⟨g, 0, none⟩, cap, rfl, fun i hi => ?_⟩
    have hadd : (⟨g, 0, none⟩ : Addr).add i = ⟨g, 0 + i, none⟩ := by unfold Addr.add; split <;> simp_all
    have hu : (ss.map Value.string)[i]? = some (.string (ss.getD i ByteArray.empty)) := by simp [hi]
    rw [hadd, cell_of_row w g (0 + i) cur _ _ hg, Nat.zero_add, ← Array.getElem?_toList]
    rw [← ht, List.getElem?_take_of_lt (by omega)] at hu
    exact hu
theorem infoStr : (Tryz.prog.info? 9).map (fun i => (i.zero, i.size, i.bytes)) = some (some (.string ⟨#[]⟩), 1, 16) := by kernel_rfl
theorem wp_str {ops : Array Oper} {rest : List Oper} {o : Oper} {a : Act} {Q : Exit → Act → World → Prop} (hgd : o.guard = none) (s x : Operand)
    (ho : o.op = .call { callee := .builtin .append, args := #[s, x], argTypes := #[25, 25] })
    (B : Nat) (v : Value) (ss : List ByteArray) (hs : a.eval s = v) (W0 w0 w1 : World) (p : ByteArray) (hw : w1 = w0.alloc (.cells #[.string p] 9)) (hb : StrsOwn B v ss W0 w0) (H : Nat) (hH : w0.heap.size = H)
    (hx : a.eval x = .slice (some ⟨H, 0, none⟩) 1 1) (hlen : ss.length ≤ 1073741824)
    (h : ∀ v' w', StrsOwn B v' (ss ++ [p]) W0 w' → wpList Tryz.prog ops Q rest (a.put o.dst v') w') : wpList Tryz.prog ops Q (o :: rest) a w1 := by
  obtain ⟨i0, hi, hz0, hz1, hz2⟩ := info_parts infoStr
  subst hH hw
  have hb' := hb.kept (bel_alloc w0 (.cells #[.string p] 9))
  refine wpList_append_own _ hgd s x 25 ho B 9 i0 (.string ⟨#[]⟩) 1 16 Tryz.underlying25 hi hz0 hz1 hz2 rfl (by decide) v ss.length (ss.map Value.string) hs hb'.1 ⟨w0.heap.size, 0, none⟩ 1 1 [.string p] hx rfl (one_new w0 (.string p) 9) (by intro u hu; simp at hu; subst hu; rfl) (by unfold maxLen; omega) (by omega) hb'.2.2 ?_
  intro v' w' ho' hg _
  refine h v' w' ⟨?_, hb'.2.1.grown hg hb'.2.2 (fun k hk => (hb'.lt k hk).1), Nat.le_trans hb'.2.2 hg.size⟩
  rw [List.length_append, List.map_append]
  exact ho'

theorem slice2 (l : List UInt8) (t u : Nat) (h1 : t ≤ u) (h2 : u ≤ l.length) (W : World) :
    (Instr.slice 9 (.string (str l)) (some (.int .i64 (t : Int))) (some (.int .i64 (u : Int))) none).run Tryz.prog W = .ok (.string (str ((l.take u).drop t))) W := by
  rw [← str_extract, run_slice_string W 9 (str l) .i64 .i64 _ _ Tryz.underlying9 (by omega) (by omega) (by rw [str_size]; omega)]
  rfl

theorem joined_snoc (ss : List ByteArray) (l : List UInt8) : M.joined (ss ++ [str l]) = M.joined ss ++ l := by simp [M.joined, str]

theorem cell_lt {w : World} {a : Addr} {v : Value} (h : w.cell? (a.add 0) = some v) : a.block < w.heap.size := by
  have hb : (a.add 0).block = a.block := by unfold Addr.add; split <;> rfl
  rw [← hb]
  rcases Nat.lt_or_ge (a.add 0).block w.heap.size with hlt | hge
  · exact hlt
  · exfalso
    unfold World.cell? at h
    rw [Array.getElem?_eq_none hge] at h
    simp at h

/-- The bytes as an even number of them. -/
def evenL (l : List UInt8) : List UInt8 := if l.length % 2 = 1 then l ++ [0] else l
theorem evenL_len (l : List UInt8) : (evenL l).length % 2 = 0 ∧ (evenL l).length ≤ l.length + 1 := by
  unfold evenL; split
  · rw [List.length_append]; simp; omega
  · omega
theorem evenL_sum (l : List UInt8) : M.wsum true (evenL l) = M.wsum true l := by
  unfold evenL; split
  · rw [M.wsum_append]; simp [M.wsum]
  · rfl
theorem even_sum (l : List UInt8) (S : Nat) (hS : S ≤ 65535) : decide (M.sum16 (evenL l ++ beBytes 2 S) = 0) = fitsB (S : Int) l := by
  have e : M.wsum true (evenL l ++ beBytes 2 S) = M.wsum true l + S := by
    rw [M.wsum_append, evenL_sum]
    have hp : M.par true (evenL l).length = true := by unfold M.par; rw [if_pos (evenL_len l).1]
    rw [hp]
    have : M.wsum true (beBytes 2 S) = S := by
      simp only [beBytes, M.wsum]
      rw [UInt8.toNat_ofNat', UInt8.toNat_ofNat']
      simp
      omega
    rw [this]
  unfold M.sum16 fitsB
  rw [e, Int.toNat_natCast]
  have := M.fold16_le (M.wsum true l + S)
  rw [decide_eq_decide]
  omega

set_option maxHeartbeats 8000000 in
set_option maxRecDepth 100000 in
theorem sumAll_walk (s : ByteArray) (p : Option Addr) (n cap : Nat) (cs : Nat → Int) (tot off cov sm : Int) (hs : s.size ≤ maxLen) (hn : n ≤ 9223372036854775807)
    (t1 : -9223372036854775808 ≤ tot) (t2 : tot ≤ 9223372036854775807) (o1 : -9223372036854775808 ≤ off) (o2 : off ≤ 9223372036854775807) (c1 : -9223372036854775808 ≤ cov) (c2 : cov ≤ 9223372036854775807) (w : World)
    (hp : 0 < n → ∃ a, p = some a ∧ a.block < w.heap.size ∧ ∀ i, i < n → w.cell? (a.add i) = some (.int .i64 (cs i))) (hcs : ∀ i, i < n → -9223372036854775808 ≤ cs i ∧ cs i ≤ 9223372036854775807) :
    Calls Tryz.prog 3 #[.string s, .slice p n cap, .int .i64 tot, .int .i64 off, .int .i64 cov, .int .i64 sm] w fun e w' => e = .returned (.bool true) ∧ Below w.heap.size w w' := by
  obtain ⟨l, hl, hll⟩ : ∃ l, s.data.toList.take 300 = l ∧ l.length ≤ 300 := ⟨_, rfl, by simp; omega⟩
  have HT := Lib.hid (fun w => textN_any s 300 300 l rfl (by omega) hs hl w)
  have HC1 := Lib.hid (fun w => covered_any tot off cov t1 t2 o1 o2 c1 c2 w)
  have HC2 := Lib.hid (fun w => refCovered_any tot off cov t1 t2 o1 o2 c1 c2 w)
  generalize covI tot off cov = cI at *
  generalize covB tot off cov = cB at *
  obtain ⟨x, hx⟩ : ∃ x, M.sum16 l = x := ⟨_, rfl⟩
  have HS1 := Lib.hid (fun w H hH => sum1_any w H hH l x (by omega) hx)
  have HF1 := Lib.hid (fun w H hH => sumFits1_any w H hH l x (by omega) hx)
  have HRS : Hid (∀ w : World, Calls Tryz.prog 20 #[.string (str l)] w fun e w' => e = .returned (.int .i64 x) ∧ w = w') := Lib.hid (fun w => by
    have h := refSum_any (str l) (by rw [str_size]; omega) w
    rw [str_list, hx] at h; exact h)
  have HPA : Hid (∀ (v : Value) (ss : List ByteArray) (W0 W : World) (B : Nat), StrsOwn B v ss W0 W → M.joined ss = l → ss.length ≤ 20 → (∀ x ∈ ss, x.size ≤ 300) → StrsAt W v ss) := Lib.hid (fun v ss W0 W B h hj h1 h2 => h.at (by omega) (fun y hy => by have := h2 y hy; unfold maxLen; omega) (by rw [hj]; omega))
  have HX := Lib.hid hx
  obtain ⟨FB, hFB⟩ : ∃ b, fitsB sm l = b := ⟨_, rfl⟩
  have HFB := Lib.hid hFB
  have HQ : Hid (∀ (v : Value) (ss : List ByteArray) (W0 W W' : World) (B : Nat), StrsOwn B v ss W0 W → M.joined ss = l → (ss.length ≤ 20 ∧ ∀ x ∈ ss, x.size ≤ 300) → Below W.heap.size W W' → Calls Tryz.prog 19 #[v] W' fun e w' => e = .returned (.int .i64 x) ∧ W' = w') := Lib.hid (fun v ss W0 W W' B h hj h1 hb => by
    have h := sumOf_at (HPA.out v ss W0 W' B (h.kept hb) hj h1.1 h1.2)
    rw [hj, hx] at h; exact h)
  have HQF : Hid (∀ (v : Value) (ss : List ByteArray) (W0 W W' : World) (B : Nat), StrsOwn B v ss W0 W → M.joined ss = l → (ss.length ≤ 20 ∧ ∀ x ∈ ss, x.size ≤ 300) → Below W.heap.size W W' → Calls Tryz.prog 22 #[.int .i64 sm, v] W' fun e w' => e = .returned (.bool FB) ∧ W' = w') := Lib.hid (fun v ss W0 W W' B h hj h1 hb => by
    have h := sumFits_at sm (HPA.out v ss W0 W' B (h.kept hb) hj h1.1 h1.2)
    rw [hj, hFB] at h; exact h)
  clear hFB
  obtain ⟨bl, hbl⟩ : ∃ b, str l = b := ⟨_, rfl⟩
  obtain ⟨E, hE⟩ : ∃ E : Int, (bl.size : Int) = E := ⟨_, rfl⟩
  have hbs : bl.size = l.length := by rw [← hbl]; rfl
  have hEl : E = (l.length : Int) := by rw [← hE, hbs]
  have HEL := Lib.hid hEl
  have hE3 : 0 ≤ E ∧ E ≤ 300 := by omega
  have HBL := Lib.hid hbl
  have HP := Lib.hid hp; have HCS := Lib.hid hcs
  rw [hbl] at HT HS1 HF1 HRS
  clear hl hs hbs hbl hx hEl hp hcs t1 t2 o1 o2 c1 c2
  go_enter Tryz.func3, Tryz.ntmps3
  go_upto_block 0 with (first
    | (go_at_call 15; refine (begun_any _).mono ?_; rintro e w0 ⟨rfl, hb0⟩)
    | (go_at_call 16; (with_reducible refine (HT.out _).mono ?_); rintro e w1 ⟨rfl, rfl⟩))
  have HB0 := Lib.hid hb0
  clear hb0
  have hE3' : 0 ≤ E ∧ E ≤ 300 := hE3
  have HNIL := Lib.hid (StrsOwn.nil w0)
  go_cut [14, 15, 16, 17] (fun v t i u wx => ∃ (ss : List ByteArray) (k : Nat), t = .int .i64 (k : Int) ∧ k ≤ 300 ∧ (k : Int) ≤ E ∧ Hid (StrsOwn w0.heap.size v ss w0 wx) ∧ Hid (M.joined ss = l.take k) ∧ Hid (ss.length ≤ 10 ∧ ∀ x ∈ ss, x.size ≤ 300))
  case first =>
    go_wp2_with fail
    go_loopw [14, 15, 16] (fun v t i wr => ∃ (ss : List ByteArray) (k j : Nat), t = .int .i64 (k : Int) ∧ i = .int .i64 (j : Int) ∧ j ≤ 10 ∧ k ≤ 300 ∧ (k : Int) ≤ E ∧ Hid (StrsOwn w0.heap.size v ss w0 wr) ∧ Hid (M.joined ss = l.take k) ∧ Hid (ss.length ≤ j ∧ ∀ x ∈ ss, x.size ≤ 300)) (fun _ _ i _ => (10 - intOf i).toNat)
    case atStart => exact ⟨[], 0, 0, rfl, rfl, by omega, by omega, by omega, HNIL, Lib.hid rfl, Lib.hid ⟨by simp, by simp⟩⟩
    case round =>
      obtain ⟨ss, k, j, rfl, rfl, hj, hk3, hkE, hown, hjn, hsz⟩ := hrel
      by_cases hjn2 : j < n
      · by_cases hj10 : j < 10
        · obtain ⟨a, rfl, hab, hc⟩ := HP.out (by omega)
          obtain ⟨hc1, hc2⟩ := HCS.out j hjn2
          have hcell : wr.cell? (a.add j) = some (.int .i64 (cs j)) := by
            have hadd : (a.add j).block = a.block := by unfold Addr.add; split <;> rfl
            have hb1 := bel_trans HB0.out hown.out.2.1
            rw [hb1.cell (p := a.add j) (by rw [hadd]; exact hab)]; exact hc j hjn2
          generalize cs j = c at *
          obtain ⟨a1, a2⟩ := tmod_lim c 30 (by omega)
          obtain ⟨k1, hk1⟩ : ∃ k, c.tmod 30 = k := ⟨_, rfl⟩
          rw [hk1] at a1 a2
          have a5 : 0 ≤ (k1 + 30).tmod 30 := Int.tmod_nonneg _ (by omega)
          obtain ⟨a3, a4⟩ := tmod_lim (k1 + 30) 30 (by omega)
          obtain ⟨q, hq⟩ : ∃ q, (k1 + 30).tmod 30 = q := ⟨_, rfl⟩
          rw [hq] at a3 a4 a5
          obtain ⟨u, hu⟩ : ∃ u : Nat, min ((k : Int) + q) E = (u : Int) := ⟨(min ((k : Int) + q) E).toNat, by omega⟩
          have hu1 : k ≤ u := by omega
          have hu2 : (u : Int) ≤ E := by omega
          have hsl := slice2 l k u hu1 (by have := HEL.out; omega)
          rw [HBL.out] at hsl
          obtain ⟨pc, hpc⟩ : ∃ b, str ((l.take u).drop k) = b := ⟨_, rfl⟩
          rw [hpc] at hsl
          have HPC := Lib.hid hpc
          clear hc hpc
          go_wp2_with (at_builtin; refine wp_str rfl _ _ rfl _ _ ss rfl w0 wr _ pc rfl hown.out _ rfl rfl (by have := hsz.out.1; omega) ?_; intro v2 w2 hb2)
          have HJ : Hid (M.joined (ss ++ [pc]) = l.take u) := Lib.hid (by
            rw [← HPC.out, joined_snoc, hjn.out]
            have e : l.take k = (l.take u).take k := by rw [List.take_take, Nat.min_eq_left hu1]
            rw [e, List.take_append_drop])
          have HSZ : Hid ((ss ++ [pc]).length ≤ j + 1 ∧ ∀ x ∈ ss ++ [pc], x.size ≤ 300) := Lib.hid ⟨by rw [List.length_append]; have := hsz.out.1; simp; omega, fun x hx => by
            rcases List.mem_append.1 hx with h | h
            · exact hsz.out.2 x h
            · obtain rfl := List.mem_singleton.1 h
              rw [← HPC.out, str_size, List.length_drop, List.length_take]; omega⟩
          refine ⟨⟨ss ++ [pc], u, j + 1, rfl, by go_num, by omega, by omega, by omega, Lib.hid hb2, HJ, HSZ⟩, ?_⟩
          simp [intOf]; omega
        · have hd10 : j = 10 := by omega
          have HSZ : Hid (ss.length ≤ 10 ∧ ∀ x ∈ ss, x.size ≤ 300) := Lib.hid ⟨by have := hsz.out.1; omega, hsz.out.2⟩
          clear hd10
          go_wp2
          go_meet
          exact ⟨ss, k, rfl, hk3, hkE, hown, hjn, HSZ⟩
      · have HSZ : Hid (ss.length ≤ 10 ∧ ∀ x ∈ ss, x.size ≤ 300) := Lib.hid ⟨by have := hsz.out.1; omega, hsz.out.2⟩
        go_wp2
        go_meet
        exact ⟨ss, k, rfl, hk3, hkE, hown, hjn, HSZ⟩
  case rest =>
    obtain ⟨ss, k, rfl, hk3, hkE, hown, hjn, hsz⟩ := hcut
    obtain ⟨pz, hpz⟩ : ∃ b, str (l.drop k) = b := ⟨_, rfl⟩
    have hkb : k ≤ bl.size := by omega
    have hdr : bl.extract k bl.size = pz := by rw [← HBL.out, ← hpz]; exact str_drop l k
    have HJ : Hid (M.joined (ss ++ [pz]) = l) := Lib.hid (by rw [← hpz, joined_snoc, hjn.out, List.take_append_drop])
    have HSZ : Hid ((ss ++ [pz]).length ≤ 20 ∧ ∀ x ∈ ss ++ [pz], x.size ≤ 300) := Lib.hid ⟨by rw [List.length_append]; have := hsz.out.1; simp; omega, fun x hx => by
      rcases List.mem_append.1 hx with h | h
      · exact hsz.out.2 x h
      · obtain rfl := List.mem_singleton.1 h
        rw [← hpz, str_size, List.length_drop]; have := HEL.out; omega⟩
    clear hpz
    go_upto_region 14 with (at_builtin; refine wp_str rfl _ _ rfl _ _ ss rfl w0 wc _ pz rfl hown.out _ rfl rfl (by have := hsz.out.1; omega) ?_; intro v2 w2 hb2)
    clear hdr
    have HO2 := Lib.hid hb2
    clear hb2
    have HQ1 := Lib.hid (fun W' hb => HQ.out v2 _ w0 w2 W' _ HO2.out HJ.out HSZ.out hb)
    have HQ2 := Lib.hid (fun W' hb => HQF.out v2 _ w0 w2 W' _ HO2.out HJ.out HSZ.out hb)
    obtain ⟨r2, hr2⟩ : ∃ r2, E % 2 = r2 := ⟨_, rfl⟩
    have hr3 : E.tmod 2 = r2 := by rw [Int.tmod_eq_emod_of_nonneg hE3.1, hr2]
    have hr4 : r2 = 0 ∨ r2 = 1 := by omega
    have HR4 := Lib.hid hr4
    clear hr4
    obtain ⟨be, hbe⟩ : ∃ b, str (evenL l) = b := ⟨_, rfl⟩
    have HBE : Hid (be = if r2 = 1 then bl ++ ⟨#[0]⟩ else bl) := Lib.hid (by
      rw [← hbe, ← HBL.out]
      unfold evenL
      have hll := HEL.out
      by_cases h : l.length % 2 = 1
      · rw [if_pos h, if_pos (by omega)]; exact (str_append l [0]).symm
      · rw [if_neg h, if_neg (by omega)])
    have hbes : be.size ≤ 301 := by rw [← hbe, str_size]; have := (evenL_len l).2; have := HEL.out; omega
    have HBEV := Lib.hid hbe
    clear hbe
    go_upto_if 106 with (first
      | (go_at_call 17; (with_reducible refine (HC1.out _).mono ?_); rintro e w1 ⟨rfl, rfl⟩)
      | (go_at_call 18; (with_reducible refine (HC2.out _).mono ?_); rintro e w1 ⟨rfl, rfl⟩)
      | (go_at_call 19; (first | (with_reducible refine (HS1.out _ _ (by first | rfl | simp)).mono ?_) | ((with_reducible refine (HQ1.out _ ?_).mono ?_); exact bel_alloc _ _)); rintro e w1 ⟨rfl, rfl⟩)
      | (go_at_call 20; (with_reducible refine (HRS.out _).mono ?_); rintro e w1 ⟨rfl, rfl⟩))
    have HBW : Hid (Below w2.heap.size w2 (w2.alloc (.cells #[.string bl] 9))) := Lib.hid (bel_alloc _ _)
    generalize w2.alloc (.cells #[.string bl] 9) = W3 at *
    go_cut [22] (fun ev wx => ev = .string be ∧ wx = W3)
    case first =>
      rcases HR4.out with h | h
      · subst h
        have e : be = bl := by rw [HBE.out, if_neg (by omega)]
        clear hr2 hr3
        go_wp2
        go_meet
        exact ⟨by rw [e], rfl⟩
      · subst h
        have e : bl ++ ⟨#[0]⟩ = be := by rw [HBE.out, if_pos rfl]
        have hb1 : bl.size ≤ 300 := by omega
        clear hr2 hr3
        go_wp2
        go_meet
        exact ⟨rfl, rfl⟩
    case rest =>
      obtain ⟨rfl, rfl⟩ := hcut
      clear hr2 hr3
      go_upto_region 21 with fail
      go_cut [23] (fun f wx => f = .bool FB ∧ Below w2.heap.size w2 wx)
      case first =>
        by_cases s0 : sm < 0
        · have hf : FB = false := by rw [← HFB.out]; unfold fitsB; rw [decide_eq_false_iff_not]; omega
          go_wp2
          go_meet
          exact ⟨by rw [hf], HBW.out⟩
        · by_cases s1 : 65535 < sm
          · have hf : FB = false := by rw [← HFB.out]; unfold fitsB; rw [decide_eq_false_iff_not]; omega
            go_wp2
            go_meet
            exact ⟨by rw [hf], HBW.out⟩
          · obtain ⟨S, rfl⟩ : ∃ S : Nat, sm = (S : Int) := ⟨sm.toNat, by omega⟩
            have hS : S ≤ 65535 := by omega
            have hmax : max (S : Int) 0 = (S : Int) := by omega
            obtain ⟨b2, hb2⟩ : ∃ b, str (beBytes 2 S) = b := ⟨_, rfl⟩
            have HRB : Hid (∀ w : World, Calls Tryz.prog 21 #[.int .u64 S, .int .i64 2] w fun e w' => e = .returned (.string b2) ∧ Below w.heap.size w w') := Lib.hid (fun w => by
              have h := refBytes_any S 2 (by omega) (by omega) w
              rw [hb2] at h; exact h)
            obtain ⟨bq, hbq⟩ : ∃ b, be ++ b2 = b := ⟨_, rfl⟩
            have hb2s : b2.size ≤ 2 := by rw [← hb2, str_size, beBytes_length]; omega
            obtain ⟨y, hy⟩ : ∃ y, M.sum16 (evenL l ++ beBytes 2 S) = y := ⟨_, rfl⟩
            have HY : Hid (∀ w : World, Calls Tryz.prog 20 #[.string bq] w fun e w' => e = .returned (.int .i64 y) ∧ w = w') := Lib.hid (fun w => by
              have e : bq = str (evenL l ++ beBytes 2 S) := by rw [← hbq, ← hb2, ← HBEV.out, str_append]
              rw [e]
              have h := refSum_any (str (evenL l ++ beBytes 2 S)) (by rw [str_size, List.length_append, beBytes_length]; have := (evenL_len l).2; have := HEL.out; omega) w
              rw [str_list, hy] at h; exact h)
            have hev := even_sum l S hS
            rw [hy, HFB.out] at hev
            have hyb : ((y : Int) == 0) = FB := by
              rw [← hev]
              by_cases h0 : y = 0
              · subst h0; rfl
              · rw [decide_eq_false h0, beq_eq_false_iff_ne]; omega
            have HEV := Lib.hid hev
            clear hb2 hy hev
            go_wp2_with (first
              | (go_at_call 21; (with_reducible refine (HRB.out _).mono ?_); rintro e w1 ⟨rfl, hb1⟩)
              | (go_at_call 20; (with_reducible refine (HY.out _).mono ?_); rintro e w1 ⟨rfl, rfl⟩))
            go_meet
            exact ⟨rfl, bel_trans HBW.out hb1⟩
      case rest =>
        obtain ⟨rfl, hbc⟩ := hcut
        have HBC := Lib.hid hbc
        clear hbc
        go_wp2_with (first
          | (go_at_call 22; (first | (with_reducible refine (HF1.out _ _ (by first | rfl | simp)).mono ?_) | ((with_reducible refine (HQ2.out _ ?_).mono ?_); exact HBC.out)); rintro e w1 ⟨rfl, rfl⟩)
          | (go_at_call 20; (with_reducible refine (HRS.out _).mono ?_); rintro e w1 ⟨rfl, rfl⟩))
        go_ret
        exact ⟨rfl, bel_trans (bel_trans HB0.out (bel_trans HO2.out.2.1 HBC.out)) (bel_alloc _ _)⟩
end Go.Proofs.YtdlpapchjjbplaaGreatDoor
