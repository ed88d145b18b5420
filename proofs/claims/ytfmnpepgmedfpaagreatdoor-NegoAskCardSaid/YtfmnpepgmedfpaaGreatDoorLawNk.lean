/-
  The law NegoAsk, walked (its opening handed in).
-/
import Derived.Test.YtfmnpepgmedfpaaGreatDoorNkM
import Derived.Test.YtfmnpepgmedfpaaGreatDoorHeldK
import Derived.Test.YtfmnpepgmedfpaaGreatDoorVecW
import Derived.Deep.CutBlock
import Derived.Deep.DeepCutAuto
namespace Go.Proofs.YtfmnpepgmedfpaaGreatDoor
open Go.ChangeShapes Go.WideShapes Go.ChangeAt Go.RowKit
set_option linter.unusedVariables false
set_option linter.unusedSimpArgs false

def nkRow : Array Value := #[.int .i64 1, .int .i64 3, .int .i64 6, .int .i64 8]
/-- What the law holds: one side, the map, the row of features. -/
structure NkI (ks : Int → Bool) (cnt C b A B : Nat) (w W : World) : Prop where
  n : NgN (nkS ks) C B w W
  m : MapA ks (nkTo ks 4).length cnt b W
  a : BlkIs nkRow 3 A W
  ne : b ≠ C ∧ A ≠ C ∧ A ≠ b ∧ B ≤ b ∧ B ≤ A
theorem NkI.kept {ks : Int → Bool} {cnt C b A B : Nat} {w W W' : World} (h : NkI ks cnt C b A B w W) (k : Kept [] W W') : NkI ks cnt C b A B w W' :=
  ⟨h.n.kept k, h.m.kept k (by simp), BlkIs.kept h.a k (by simp), h.ne⟩
theorem NgN.toM {s : NgS} {C B : Nat} {w0 W : World} (h : NgN s C B w0 W) : NgM s [] C B w0 W W :=
  ⟨_, h.1, OpRow.nil _, (fun g hg => by cases hg), h.2.1, h.2.2.1, h.2.2.2.1, h.2.2.2.2, Kept.refl _ _⟩
theorem NkI.opts {ks : Int → Bool} {cnt C b A B : Nat} {w W : World} (h : NkI ks cnt C b A B w W) :
    Calls Tryz.prog 39 #[.pointer (some ⟨C, 0, none⟩)] W fun e w' => ∃ p cap, e = .returned (.slice p (nkTo ks 4).length cap) ∧ LstAt (.slice p (nkTo ks 4).length cap) (nkTo ks 4) C B w' ∧ NkI ks cnt C b A B w w' ∧ (∀ g, (Value.slice p (nkTo ks 4).length cap).ownBlock = some g → g ≠ A ∧ g ≠ b) := by
  have hl := h.n.1.lt
  have hB := h.n.2.1
  refine (h.n.toM.opts (by simp) hl (by omega)).mono ?_
  rintro e w' ⟨v, rfl, p1, p2, p3⟩
  rw [List.nil_append, nk_asks] at p1
  have hk : NkI ks cnt C b A B w w' := ⟨p2, h.m.kept p3 (by simpa using h.ne.1), BlkIs.kept h.a p3 (by simpa using h.ne.2.1), h.ne⟩
  have hA : ∀ g, v.ownBlock = some g → g ≠ A := fun g hg e => by
    rw [e] at hg
    exact p1.1.blk hk.a (by decide) hg
  have hb : ∀ g, v.ownBlock = some g → g ≠ b := fun g hg e => by
    rw [e] at hg
    obtain ⟨D, ⟨es, clock, e1, _⟩, _⟩ := hk.m
    rcases p1.1.2 with ⟨rfl, _⟩ | ⟨g2, c2, cur, rfl, _, hg2, _⟩
    · cases hg
    · have e3 : g2 = b := by simpa [Value.ownBlock] using hg
      rw [e3, e1] at hg2
      injection hg2 with hg2
      cases hg2
  rcases p1.1.2 with ⟨rfl, h0⟩ | ⟨g, cap, cur, rfl, _⟩
  · exact ⟨none, 0, by rw [h0], by rw [h0]; exact p1, hk, fun g hg => by cases hg⟩
  · exact ⟨_, cap, rfl, p1, hk, fun q hq => ⟨hA q hq, hb q hq⟩⟩
theorem OpRow.cellsN {p : Option Addr} {N cap : Nat} {os : List M.Opt} {W : World} (h : OpRow (.slice p N cap) os W) (i : Nat) (hi : i < os.length) :
    N = os.length ∧ ∃ g, p = some ⟨g, 0, none⟩ ∧ g < W.heap.size ∧ N ≤ cap ∧ W.cell? ⟨g, i * 2, none⟩ = some (.int .i64 (os.getD i ⟨0, []⟩).t) ∧ W.cell? ⟨g, i * 2 + 1, none⟩ = some (.string (str (os.getD i ⟨0, []⟩).d)) := by
  rcases h.2 with ⟨_, h0⟩ | ⟨g, c, cur, e, _, hg, hc, _, _, ht⟩
  · omega
  · injection e with e1 e2 e3
    subst e1 e2 e3
    have key : ∀ j u, j < os.length * 2 → (ovList os)[j]? = some u → W.cell? ⟨g, j, none⟩ = some u := by
      intro j u hj hu
      rw [cell_of_row W g j cur _ _ hg, ← Array.getElem?_toList]
      rw [← ht, List.getElem?_take_of_lt hj] at hu
      exact hu
    obtain ⟨a, b⟩ := ovList_get os i hi
    exact ⟨rfl, g, rfl, (Array.getElem?_eq_some_iff.1 hg).1, hc, key _ _ (by omega) a, key _ _ (by omega) b⟩
theorem conv_at (W : World) (g F : Nat) (hF : F < 256) (h : W.cell? ⟨g, 0, none⟩ = some (.int .u8 (F : Int))) : (convert 54 9 (.slice (some ⟨g, 0, none⟩) 1 1)).run Tryz.prog W = .ok (.string (str [UInt8.ofNat F])) W := by
  refine run_convert_bytes_back _ 54 9 5 ⟨g, 0, none⟩ 1 [UInt8.ofNat F] Tryz.underlying54 Tryz.underlying5 Tryz.underlying9 (fun i hi => ?_)
  obtain rfl : i = 0 := by simpa using hi
  refine h.trans ?_
  simp
  omega
theorem nkF_is (j : Nat) (hj : j < 4) : (nkF j = 1 ∨ nkF j = 3 ∨ nkF j = 6 ∨ nkF j = 8) ∧ nkRow[j]? = some (.int .i64 (nkF j : Int)) := by
  have h3 : j = 0 ∨ j = 1 ∨ j = 2 ∨ j = 3 := by omega
  rcases h3 with rfl | rfl | rfl | rfl <;> exact ⟨by decide, rfl⟩
set_option maxHeartbeats 16000000 in
set_option maxRecDepth 100000 in
theorem negoAsk_walk (p : Option Addr) (n cp : Nat) (hn : n ≤ 9223372036854775807) (l : List Int) (hl : l.length = min n 6) (tz : Int) (t1 : -9223372036854775808 ≤ tz) (t2 : tz ≤ 9223372036854775807) (w : World) (hI : I64At w (.slice p l.length cp) l)
    (hbg : Calls Tryz.prog 15 #[] w fun e w' => e = .returned (.bool true) ∧ Below w.heap.size w w') :
    Calls Tryz.prog 12 #[.slice p n cp, .int .i64 tz] w fun e w' => e = .returned (.bool true) ∧ Below w.heap.size w w' := by
  have HBG := Lib.hid hbg
  obtain ⟨B, hB⟩ : ∃ B, w.heap.size = B := ⟨_, rfl⟩
  have HBe := Lib.hid hB
  obtain ⟨c, hc, c1, c2, K, hK, hK3⟩ := mod_atN tz 5 (by decide)
  have r1 : IntKind.i64.wrap (c + 5) = c + 5 := by rw [IntKind.wrap_i64]; omega
  have r2 : wrap64 (c + 5) = c + 5 := by unfold wrap64; omega
  have hK4 : K < 5 := by omega
  have HNEW : Hid (∀ sv W, Below B w W → Calls Tryz.prog 30 #[.bool sv] W fun e w' => ∃ C, e = .returned (.pointer (some ⟨C, 0, none⟩)) ∧ NgN (ngInit sv) C B w w') := Lib.hid (fun sv W h => (NgN.new sv B w W h (by omega)).mono fun e w' ⟨p1, p2, p3⟩ => ⟨_, p1, p2⟩)
  have HI : Hid (∀ W, Below B w W → ∀ i, i < l.length → ∃ q o, p = some ⟨q, o, none⟩ ∧ W.cell? ⟨q, o + i, none⟩ = some (.int .i64 (l.getD i 0))) := Lib.hid (fun W hW i hi => by
    obtain ⟨p2, cap2, hv, _, _, hcells⟩ := hI.at_
    injection hv with e1 e2 e3
    subst e1
    obtain ⟨q, o, h1, h2, h3⟩ := hcells i hi
    refine ⟨q, o, h1, ?_⟩
    rw [(by rw [hB]; exact hW : Below w.heap.size w W).cell (p := ⟨q, o + i, none⟩) h2]
    exact h3)
  clear hbg hK3 hB hI
  go_enter Tryz.func12, Tryz.ntmps12
  go_upto_region 5 with (first
    | (go_at_call 15; (with_reducible refine HBG.out.mono ?_); rintro e w0 ⟨rfl, hb0⟩)
    | (go_at_call 30; (with_reducible refine (HNEW.out _ _ (by rw [← HBe.out]; exact hb0)).mono ?_); rintro e w3 ⟨C, rfl, h3⟩))
  have H3 := Lib.hid h3
  clear HBG HNEW h3 hb0
  have hmm := @run_makeMap Tryz.prog
  go_upto_region 6 with fail
  clear hmm
  have HB3 : Hid (C < w3.heap.size ∧ B ≤ w3.heap.size) := Lib.hid ⟨H3.out.1.lt, by have := H3.out.1.lt; have := H3.out.2.1; omega⟩
  have HM4 := Lib.hid (MapA.made w3)
  have HN4 : Hid (NgN (nkS fun _ => false) C B w (w3.alloc (.map #[] 0))) := Lib.hid (by rw [nkS_none]; exact H3.out.kept ((Kept.refl [] w3).alloc _))
  have HS4 : Hid ((w3.alloc (.map #[] 0)).heap.size = w3.heap.size + 1) := Lib.hid (by simp)
  generalize w3.alloc (.map #[] 0) = w4 at *
  obtain ⟨b, hb⟩ : ∃ b, w3.heap.size = b := ⟨_, rfl⟩
  rw [hb] at HM4 HS4 HB3 ⊢
  clear hb H3
  go_upto_region 7 with fail
  have HROW : Hid (BlkIs nkRow 3 w4.heap.size (w4.alloc (.cells #[.int .i64 1, .int .i64 3, .int .i64 6, .int .i64 8] 3))) := Lib.hid (BlkIs.new nkRow _ w4)
  have H5 : Hid (NkI (fun _ => false) 0 C b w4.heap.size B w (w4.alloc (.cells #[.int .i64 1, .int .i64 3, .int .i64 6, .int .i64 8] 3))) := Lib.hid ⟨HN4.out.kept ((Kept.refl [] w4).alloc _), HM4.out.kept ((Kept.refl [] w4).alloc _) (by simp), HROW.out, by have := HB3.out; have := HS4.out; omega⟩
  clear HROW HM4 HN4 HS4 HB3
  generalize w4.alloc (.cells #[.int .i64 1, .int .i64 3, .int .i64 6, .int .i64 8] 3) = w5 at *
  generalize w4.heap.size = A at *
  have HIW : Hid (∀ ks cnt W, NkI ks cnt C b A B w W → ∀ i, i < l.length → ∃ q o, p = some ⟨q, o, none⟩ ∧ W.cell? ⟨q, o + i, none⟩ = some (.int .i64 (l.getD i 0))) := Lib.hid (fun ks cnt W h i hi => HI.out W h.n.2.2.1 i hi)
  have HWT : Hid (∀ ks cnt (F : Int) W, (F = 1 ∨ F = 3 ∨ F = 6 ∨ F = 8) → NkI ks cnt C b A B w W → Calls Tryz.prog 34 #[.pointer (some ⟨C, 0, none⟩), .int .i64 F, .string (str (ftDefault F))] W fun e w' => e = .returned (.int .i64 0) ∧ NgN (nkS (nkAdd ks F)) C B w w' ∧ Kept [C] W w') := Lib.hid (fun ks cnt F W hF h => by
    have h9 := h.n.want F (ftDefault F) (ftDefault_may F hF)
    rw [nkS_add] at h9
    exact h9)
  have HDF := Lib.hid (fun (F : Int) W => ftDefault_any F W)
  clear HI
  go_upto_block 0 with fail
  go_cut [9, 10] from 23 to 50 (fun s9 s10 wx => ∃ (ks : Int → Bool) (cnt : Nat), cnt ≤ 6 ∧ Hid (NkI ks cnt C b A B w wx))
  case first =>
    go_wp2
    go_loopw [9] (fun iv wr => ∃ (i : Nat) (ks : Int → Bool), iv = .int .i64 (i : Int) ∧ i ≤ l.length ∧ Hid (NkI ks i C b A B w wr)) (fun iv _ => l.length - (intOf iv).toNat)
    case atStart => exact ⟨0, fun _ => false, rfl, Nat.zero_le _, H5⟩
    case round =>
      obtain ⟨i, ks, rfl, hi, hk⟩ := hrel
      clear H5
      by_cases hil : i < l.length
      · have d1 : decide ((i : Int) < (n : Int)) = true := decide_eq_true (by omega)
        have d2 : decide ((i : Int) < 6) = true := decide_eq_true (by omega)
        obtain ⟨q, o, rfl, hcell⟩ := HIW.out ks i wr hk.out i hil
        obtain ⟨x, hx⟩ : ∃ x, l.getD i 0 = x := ⟨_, rfl⟩
        rw [hx] at hcell
        obtain ⟨a, ha, a1, a2, J, hJ, hJ3⟩ := mod_atN x 4 (by decide)
        have q1 : IntKind.i64.wrap (a + 4) = a + 4 := by rw [IntKind.wrap_i64]; omega
        have q2 : wrap64 (a + 4) = a + 4 := by unfold wrap64; omega
        have hJ4 : J < 4 := by omega
        obtain ⟨F, hF, hrow⟩ : ∃ F : Nat, ((F : Int) = 1 ∨ (F : Int) = 3 ∨ (F : Int) = 6 ∨ (F : Int) = 8) ∧ wr.cell? ⟨A, J, none⟩ = some (.int .i64 (F : Int)) := by
          have h3 : J = 0 ∨ J = 1 ∨ J = 2 ∨ J = 3 := by omega
          rcases h3 with rfl | rfl | rfl | rfl
          · exact ⟨1, by decide, BlkIs.cell hk.out.a 0⟩
          · exact ⟨3, by decide, BlkIs.cell hk.out.a 1⟩
          · exact ⟨6, by decide, BlkIs.cell hk.out.a 2⟩
          · exact ⟨8, by decide, BlkIs.cell hk.out.a 3⟩
        have HF := Lib.hid hF
        have HFX : Hid (0 ≤ (F : Int) ∧ (F : Int) ≤ 1000) := Lib.hid (by omega)
        have HW1 := Lib.hid (fun W h => HWT.out ks i (F : Int) W HF.out h)
        have HD1 := Lib.hid (HDF.out (F : Int))
        obtain ⟨D, hD⟩ : ∃ D, str (ftDefault (F : Int)) = D := ⟨_, rfl⟩
        rw [hD] at HW1 HD1
        clear hD hF
        go_wp2_with (first
          | (go_at_call 33; (with_reducible refine (HD1.out _).mono ?_); rintro e w6 ⟨rfl, hb6⟩; have H6 := Lib.hid (hk.out.kept (Kept.of_below [] hb6)); clear hb6)
          | (go_at_call 34; (with_reducible refine (HW1.out _ H6.out).mono ?_); rintro e w7 ⟨rfl, h7, k7⟩; have H7 := Lib.hid h7; have K7 := Lib.hid k7; have HM7 := Lib.hid (H6.out.m.kept k7 (by simpa using H6.out.ne.1)); have HA7 := Lib.hid (BlkIs.kept H6.out.a k7 (by simpa using H6.out.ne.2.1)); clear h7 k7)
          | (at_mapUpdate; refine MapA.put HM7.out (by omega) (F : Int) HFX.out.1 HFX.out.2 rfl _ _ _ rfl rfl rfl rfl ?_; intro w8 hm8 hk8))
        refine ⟨⟨i + 1, nkAdd ks (F : Int), by go_num, by omega, Lib.hid ⟨H7.out.apart hk8 (fun e => H6.out.ne.1 e.symm) H6.out.ne.2.2.2.1, ?_, BlkIs.kept HA7.out hk8 (by simpa using H6.out.ne.2.2.1), H6.out.ne⟩⟩, ?_⟩
        · rw [nk_add_len ks (F : Int) HF.out]
          exact hm8
        · simp [intOf]; omega
      · obtain rfl : i = l.length := by omega
        by_cases hn6 : n ≤ 6
        · have d1 : decide ((l.length : Int) < (n : Int)) = false := decide_eq_false (by omega)
          go_wp2_with fail
          go_meet
          exact ⟨ks, l.length, by omega, hk⟩
        · have d1 : decide ((l.length : Int) < (n : Int)) = true := decide_eq_true (by omega)
          have d2 : decide ((l.length : Int) < 6) = false := decide_eq_false (by omega)
          go_wp2_with fail
          go_meet
          exact ⟨ks, l.length, by omega, hk⟩
  case rest =>
    obtain ⟨ks, cnt, hcnt, hk⟩ := hcut
    clear HWT HIW
    have HOP : Hid (∀ W, NkI ks cnt C b A B w W → Calls Tryz.prog 39 #[.pointer (some ⟨C, 0, none⟩)] W fun e w' => ∃ p cap, e = .returned (.slice p (nkTo ks 4).length cap) ∧ LstAt (.slice p (nkTo ks 4).length cap) (nkTo ks 4) C B w' ∧ NkI ks cnt C b A B w w' ∧ (∀ g, (Value.slice p (nkTo ks 4).length cap).ownBlock = some g → g ≠ A ∧ g ≠ b)) := Lib.hid (fun W h => h.opts)
    have HLK : Hid (∀ W, NkI ks cnt C b A B w W → ∀ x : Int, 0 ≤ x → x ≤ 1000 → (Instr.lookup 65 (.map (some b)) (.int .i64 x) false).run Tryz.prog W = .ok (.bool (ks x)) W) := Lib.hid (fun W h x h1 h2 => h.m.look x h1 h2)
    have HLN : Hid (∀ W, NkI ks cnt C b A B w W → ∀ ty, (Builtin.len_ #[65] ty #[.map (some b)]).run Tryz.prog W = .ok (.int .i64 ((nkTo ks 4).length : Int)) W) := Lib.hid (fun W h ty => h.m.len ty)
    have HDN : Hid (∀ W, NkI ks cnt C b A B w W → Calls Tryz.prog 35 #[.pointer (some ⟨C, 0, none⟩)] W fun e w' => e = .returned (.bool (decide ((nkTo ks 4).length = 0))) ∧ NkI ks cnt C b A B w w') := Lib.hid (fun W h => by
      have h9 := ngDone_any (nkS ks) _ C W h.n.1
      rw [nk_done] at h9
      exact h9.mono fun e w' ⟨q1, q2⟩ => ⟨q1, h.kept (Kept.of_below [] q2)⟩)
    have HAT := Lib.hid (nkTo_at ks)
    have HTL := Lib.hid (nkTo_len ks 4)
    obtain ⟨N, hN⟩ : ∃ N, (nkTo ks 4).length = N := ⟨_, rfl⟩
    rw [hN] at HOP HLN HDN HAT HTL
    have HN := Lib.hid hN
    clear hN
    go_wp2
    go_loopw [11] (fun iv wr => ∃ k : Nat, iv = .int .i64 (k : Int) ∧ k ≤ K + 1 ∧ Hid (NkI ks cnt C b A B w wr)) (fun iv _ => K + 1 - (intOf iv).toNat)
    case atStart => exact ⟨0, rfl, Nat.zero_le _, hk⟩
    case round =>
      obtain ⟨k, rfl, hkk, hkw⟩ := hrel
      by_cases hkn : k ≤ K
      · have d9 : decide ((k : Int) ≤ (K : Int)) = true := decide_eq_true (by omega)
        go_wp2_with (go_at_call 39; (with_reducible refine (HOP.out _ hkw.out).mono ?_); rintro e w6 ⟨p6, cap6, rfl, h6, k6, o6⟩; have H6 := Lib.hid h6; have K6 := Lib.hid k6; have O6 := Lib.hid o6; clear h6 k6 o6)
        go_loopw [13, 63] (fun iv jv wq => ∃ j : Nat, jv = .int .i64 (j : Int) ∧ j ≤ 4 ∧ iv = .int .i64 ((nkTo ks j).length : Int) ∧ Hid (NkI ks cnt C b A B w wq) ∧ Hid (LstAt (.slice p6 N cap6) (nkTo ks 4) C B wq)) (fun _ jv _ => 4 - (intOf jv).toNat)
        case atStart => exact ⟨0, rfl, by decide, rfl, K6, H6⟩
        case round =>
          obtain ⟨j, rfl, hj, rfl, hkq, hlq⟩ := hrel
          by_cases hj4 : j < 4
          · have d8 : decide ((j : Int) < 4) = true := decide_eq_true (by omega)
            obtain ⟨hF, hrow⟩ := nkF_is j hj4
            have hcell : wr.cell? ⟨A, j, none⟩ = some (.int .i64 (nkF j : Int)) := (BlkIs.cell hkq.out.a j).trans hrow
            have HTO : Hid (nkTo ks (j + 1) = nkTo ks j ++ if ks (nkF j : Int) = true then [nkO (nkF j)] else []) := Lib.hid rfl
            have HAJ := Lib.hid (HAT.out j hj4)
            have hlook := HLK.out wr hkq.out (nkF j : Int) (by omega) (by omega)
            have HF := Lib.hid hF
            generalize nkF j = F at *
            cases hks : ks (F : Int) with
            | false =>
              rw [hks] at hlook HTO
              have HTO2 : Hid (nkTo ks (j + 1) = nkTo ks j) := Lib.hid (by rw [HTO.out, if_neg (by decide), List.append_nil])
              clear HTO HAJ hks hrow hF
              go_wp2
              refine ⟨⟨j + 1, by go_num, by omega, by rw [HTO2.out], hkq, hlq⟩, ?_⟩
              simp [intOf]; omega
            | true =>
              rw [hks] at hlook HTO
              have HTO2 : Hid ((nkTo ks (j + 1)).length = (nkTo ks j).length + 1) := Lib.hid (by rw [HTO.out, if_pos rfl]; simp)
              obtain ⟨hlt, hget⟩ := HAJ.out hks
              have hI1 : (nkTo ks j).length ≤ 4 := Nat.le_trans (nkTo_len ks j) hj
              obtain ⟨-, g, rfl, hg, hcap, ce0, ce1⟩ := hlq.out.1.cellsN (nkTo ks j).length (by rw [HN.out]; exact hlt)
              rw [hget] at ce0 ce1
              obtain ⟨I, hI⟩ : ∃ I, (nkTo ks j).length = I := ⟨_, rfl⟩
              rw [hI] at ce0 ce1 hlt hI1 HTO2 ⊢
              have hF9 : F < 256 := by omega
              have q3 : IntKind.u8.wrap (F : Int) = (F : Int) := by rw [IntKind.wrap_u8]; omega
              have d7 : decide ((N : Int) ≤ (I : Int)) = false := decide_eq_false (by omega)
              have d7n : decide (N ≤ I) = false := decide_eq_false (by omega)
              have d7i : ¬ (N : Int) ≤ (I : Int) := by omega
              have d7g : decide ((I : Int) ≥ (N : Int)) = false := decide_eq_false (by omega)
              have HD1 := Lib.hid (HDF.out (F : Int))
              have ce0' : wr.cell? ⟨g, I * 2, none⟩ = some (.int .i64 32) := ce0
              have ce1' : wr.cell? ⟨g, I * 2 + 1, none⟩ = some (.string (str (UInt8.ofNat F :: ftDefault (F : Int)))) := ce1
              have happ : str [UInt8.ofNat F] ++ str (ftDefault (F : Int)) = str (UInt8.ofNat F :: ftDefault (F : Int)) := rfl
              have hone : (str [UInt8.ofNat F]).size = 1 := rfl
              have hds : (str (ftDefault (F : Int))).size ≤ 16 := ftDefault_len (F : Int)
              have HCA := Lib.hid (fun W h => conv_at W wr.heap.size F hF9 h)
              have HCB := Lib.hid (fun W g h => conv_at W g F hF9 h)
              obtain ⟨Y, hY⟩ : ∃ Y, str (UInt8.ofNat F :: ftDefault (F : Int)) = Y := ⟨_, rfl⟩
              rw [hY] at ce1' happ
              generalize str (ftDefault (F : Int)) = D at *
              generalize str [UInt8.ofNat F] = one at *
              have HS : Hid (∀ W, Kept [] wr W → Kept [] wr W ∧ W.cell? ⟨g, I * 2, none⟩ = some (.int .i64 32) ∧ W.cell? ⟨g, I * 2 + 1, none⟩ = some (.string Y)) := Lib.hid (fun W k => ⟨k, (k.cellN hg (by simp)).trans ce0', (k.cellN hg (by simp)).trans ce1'⟩)
              have HK0 : Hid (Kept [] wr wr.drew) := Lib.hid (Kept.refl [] wr).drew
              clear HTO HAJ hrow hF hget ce0 ce1 hks hY ce0' ce1'
              go_upto_region 23 with fail
              have hcvA := HCA.out (wr.alloc (.cells #[.int .u8 (F : Int)] 5)).drew ((World.cell?_alloc_mark wr _ _ (0, 0) 0).trans rfl)
              have HK1 : Hid (Kept [] wr (wr.alloc (.cells #[.int .u8 (F : Int)] 5)).drew) := Lib.hid ((Kept.refl [] wr).alloc _).drew
              have hcat : ¬ 9223372036854775807 < one.size + D.size := by omega
              have hcat2 : 1 + D.size ≤ 9223372036854775807 := by omega
              refine wp_region_noPanic ?_
              refine wp_region_held_drew (S := fun W => Kept [] wr W ∧ W.cell? ⟨g, I * 2, none⟩ = some (.int .i64 32) ∧ W.cell? ⟨g, I * 2 + 1, none⟩ = some (.string Y)) (by kernel_rfl) (HS.out _ HK0.out) (fun hHeld => ?_)
              refine wpAnyH_takeK (i := 0) (d := 71) (.move (.tmp 13)) (.int .i64 (I : Int)) (by kernel_rfl) (by kernel_rfl) (by kernel_rfl) (by kernel_rfl) (fun _ _ _ h => h) ?_ (by assumption) ?_
              · intro o ho w hSw
                obtain ⟨_, hs1, hs2⟩ := hSw
                unfold execOp
                rw [ho]
                go_simp
              try simp only [Act.put, List.setIfInBounds_toArray, List.set_cons_zero, List.set_cons_succ]
              refine wpAnyH_takeK (i := 1) (d := 72) (.move (.tmp 12)) (.slice (some ⟨g, 0, none⟩) N cap6) (by kernel_rfl) (by kernel_rfl) (by kernel_rfl) (by kernel_rfl) (fun _ _ _ h => h) ?_ (by assumption) ?_
              · intro o ho w hSw
                obtain ⟨_, hs1, hs2⟩ := hSw
                unfold execOp
                rw [ho]
                go_simp
              try simp only [Act.put, List.setIfInBounds_toArray, List.set_cons_zero, List.set_cons_succ]
              refine wpAnyH_takeK (i := 2) (d := 73) (.call { callee := .builtin .len, args := #[.tmp 72], argTypes := #[58] }) (.int .i64 (N : Int)) (by kernel_rfl) (by kernel_rfl) (by kernel_rfl) (by kernel_rfl) (fun _ _ _ h => h) ?_ (by assumption) ?_
              · intro o ho w hSw
                obtain ⟨_, hs1, hs2⟩ := hSw
                unfold execOp
                rw [ho]
                go_simp
              try simp only [Act.put, List.setIfInBounds_toArray, List.set_cons_zero, List.set_cons_succ]
              refine wpAnyH_takeK (i := 3) (d := 74) (.binOp .geq 3 (.tmp 71) (.tmp 73) 3) (.bool false) (by kernel_rfl) (by kernel_rfl) (by kernel_rfl) (by kernel_rfl) (fun _ _ _ h => h) ?_ (by assumption) ?_
              · intro o ho w hSw
                obtain ⟨_, hs1, hs2⟩ := hSw
                unfold execOp
                rw [ho]
                go_simp
              try simp only [Act.put, List.setIfInBounds_toArray, List.set_cons_zero, List.set_cons_succ]
              refine wpAnyH_takeK (i := 4) (d := 75) (.move (.tmp 74)) (.bool false) (by kernel_rfl) (by kernel_rfl) (by kernel_rfl) (by kernel_rfl) (fun _ _ _ h => h) ?_ (by assumption) ?_
              · intro o ho w hSw
                obtain ⟨_, hs1, hs2⟩ := hSw
                unfold execOp
                rw [ho]
                go_simp
              try simp only [Act.put, List.setIfInBounds_toArray, List.set_cons_zero, List.set_cons_succ]
              refine wpAnyH_takeK (i := 5) (d := 76) (.move (.tmp 12)) (.slice (some ⟨g, 0, none⟩) N cap6) (by kernel_rfl) (by kernel_rfl) (by kernel_rfl) (by kernel_rfl) (fun _ _ _ h => h) ?_ (by assumption) ?_
              · intro o ho w hSw
                obtain ⟨_, hs1, hs2⟩ := hSw
                unfold execOp
                rw [ho]
                go_simp
              try simp only [Act.put, List.setIfInBounds_toArray, List.set_cons_zero, List.set_cons_succ]
              refine wpAnyH_takeK (i := 6) (d := 77) (.move (.tmp 13)) (.int .i64 (I : Int)) (by kernel_rfl) (by kernel_rfl) (by kernel_rfl) (by kernel_rfl) (fun _ _ _ h => h) ?_ (by assumption) ?_
              · intro o ho w hSw
                obtain ⟨_, hs1, hs2⟩ := hSw
                unfold execOp
                rw [ho]
                go_simp
              try simp only [Act.put, List.setIfInBounds_toArray, List.set_cons_zero, List.set_cons_succ]
              refine wpAnyH_takeK (i := 7) (d := 78) (.indexAddr 58 (.tmp 76) (.tmp 77)) (.pointer (some ⟨g, I * 2, none⟩)) (by kernel_rfl) (by kernel_rfl) (by kernel_rfl) (by kernel_rfl) (fun _ _ _ h => h) ?_ (by assumption) ?_
              · intro o ho w hSw
                obtain ⟨_, hs1, hs2⟩ := hSw
                unfold execOp
                rw [ho]
                go_simp
              try simp only [Act.put, List.setIfInBounds_toArray, List.set_cons_zero, List.set_cons_succ]
              refine wpAnyH_takeK (i := 8) (d := 79) (.load 57 (.tmp 78)) (.agg #[.int .i64 32, .string Y]) (by kernel_rfl) (by kernel_rfl) (by kernel_rfl) (by kernel_rfl) (fun _ _ _ h => h) ?_ (by assumption) ?_
              · intro o ho w hSw
                obtain ⟨_, hs1, hs2⟩ := hSw
                unfold execOp
                rw [ho]
                go_simp
              try simp only [Act.put, List.setIfInBounds_toArray, List.set_cons_zero, List.set_cons_succ]
              refine wpAnyH_takeK (i := 9) (d := 80) (.move (.tmp 15)) (.int .i64 (F : Int)) (by kernel_rfl) (by kernel_rfl) (by kernel_rfl) (by kernel_rfl) (fun _ _ _ h => h) ?_ (by assumption) ?_
              · intro o ho w hSw
                obtain ⟨_, hs1, hs2⟩ := hSw
                unfold execOp
                rw [ho]
                go_simp
              try simp only [Act.put, List.setIfInBounds_toArray, List.set_cons_zero, List.set_cons_succ]
              refine wpAnyH_takeK (i := 10) (d := 81) (.convert 3 5 (.tmp 80)) (.int .u8 (F : Int)) (by kernel_rfl) (by kernel_rfl) (by kernel_rfl) (by kernel_rfl) (fun _ _ _ h => h) ?_ (by assumption) ?_
              · intro o ho w hSw
                obtain ⟨_, hs1, hs2⟩ := hSw
                unfold execOp
                rw [ho]
                go_simp
              try simp only [Act.put, List.setIfInBounds_toArray, List.set_cons_zero, List.set_cons_succ]
              refine wpAnyH_takeK (i := 13) (d := 84) (.move (.tmp 15)) (.int .i64 (F : Int)) (by kernel_rfl) (by kernel_rfl) (by kernel_rfl) (by kernel_rfl) (fun _ _ _ h => h) ?_ (by assumption) ?_
              · intro o ho w hSw
                obtain ⟨_, hs1, hs2⟩ := hSw
                unfold execOp
                rw [ho]
                go_simp
              try simp only [Act.put, List.setIfInBounds_toArray, List.set_cons_zero, List.set_cons_succ]
              refine wpAnyH_ready (rs := [11, 14]) (by kernel_rfl) (by simp) ?_
              refine (AllReadyH.cons (o := { dst := some 82, op := Op.buildSlice 54 1 #[(0, Operand.tmp 81)], type := 54, pos := "three.go:60", after := #[{ on := 10, ground := Ground.data }, { on := 4, ground := Ground.guard }], guard := some (4, false) }) (by kernel_rfl) (fun K hK => ?_) (AllReadyH.cons (o := { dst := some 85, op := Op.call { callee := Callee.value (Operand.func 33), args := #[Operand.tmp 84], argTypes := #[3] }, type := 9, pos := "three.go:60", after := #[{ on := 13, ground := Ground.data }, { on := 4, ground := Ground.chain }, { on := 4, ground := Ground.guard }], guard := some (4, false) }) (by kernel_rfl) (fun K hK => ?_) AllReadyH.nil))
              · go_simp
                refine hK.out _ _ (HS.out _ (HK1.out)) (fun hHeld2 => ?_)
                clear hK K
                try simp only [Act.put, List.setIfInBounds_toArray, List.set_cons_zero, List.set_cons_succ]
                refine wpAnyH_ready (rs := [12, 14]) (by kernel_rfl) (by simp) ?_
                refine (AllReadyH.cons (o := { dst := some 83, op := Op.convert 54 9 (Operand.tmp 82), type := 9, pos := "three.go:60", after := #[{ on := 11, ground := Ground.data }, { on := 4, ground := Ground.guard }], guard := some (4, false) }) (by kernel_rfl) (fun K hK => ?_) (AllReadyH.cons (o := { dst := some 85, op := Op.call { callee := Callee.value (Operand.func 33), args := #[Operand.tmp 84], argTypes := #[3] }, type := 9, pos := "three.go:60", after := #[{ on := 13, ground := Ground.data }, { on := 4, ground := Ground.chain }, { on := 4, ground := Ground.guard }], guard := some (4, false) }) (by kernel_rfl) (fun K hK => ?_) AllReadyH.nil))
                · go_simp
                  refine hK.out _ _ (HS.out _ (HK1.out)) (fun hHeld3 => ?_)
                  clear hK K
                  try simp only [Act.put, List.setIfInBounds_toArray, List.set_cons_zero, List.set_cons_succ]
                  refine wpAnyH_ready (rs := [14]) (by kernel_rfl) (by simp) ?_
                  refine (AllReadyH.cons (o := { dst := some 85, op := Op.call { callee := Callee.value (Operand.func 33), args := #[Operand.tmp 84], argTypes := #[3] }, type := 9, pos := "three.go:60", after := #[{ on := 13, ground := Ground.data }, { on := 4, ground := Ground.chain }, { on := 4, ground := Ground.guard }], guard := some (4, false) }) (by kernel_rfl) (fun K hK => ?_) AllReadyH.nil)
                  go_simp
                  go_at_call 33
                  with_reducible refine (HD1.out _).mono ?_
                  rintro e w8 ⟨rfl, hb8⟩
                  refine hK.out _ _ (HS.out _ (HK1.out.trans' (Kept.of_below [] hb8))) (fun hHeld4 => ?_)
                  clear hK K
                  try simp only [Act.put, List.setIfInBounds_toArray, List.set_cons_zero, List.set_cons_succ]
                  refine wpAnyH_takeK (i := 15) (d := 86) (.binOp .add 9 (.tmp 83) (.tmp 85) 9) (.string Y) (by kernel_rfl) (by kernel_rfl) (by kernel_rfl) (by kernel_rfl) (fun _ _ _ h => h) ?_ (by assumption) ?_
                  · intro o ho w hSw
                    obtain ⟨_, hs1, hs2⟩ := hSw
                    unfold execOp
                    rw [ho]
                    go_simp
                  try simp only [Act.put, List.setIfInBounds_toArray, List.set_cons_zero, List.set_cons_succ]
                  refine wpAnyH_takeK (i := 16) (d := 87) (.build 57 #[(0, .const (.int .i64 32)), (1, .tmp 86)]) (.agg #[.int .i64 32, .string Y]) (by kernel_rfl) (by kernel_rfl) (by kernel_rfl) (by kernel_rfl) (fun _ _ _ h => h) ?_ (by assumption) ?_
                  · intro o ho w hSw
                    obtain ⟨_, hs1, hs2⟩ := hSw
                    unfold execOp
                    rw [ho]
                    go_simp
                  try simp only [Act.put, List.setIfInBounds_toArray, List.set_cons_zero, List.set_cons_succ]
                  refine wpAnyH_takeK (i := 17) (d := 88) (.binOp .neq 57 (.tmp 79) (.tmp 87) 57) (.bool false) (by kernel_rfl) (by kernel_rfl) (by kernel_rfl) (by kernel_rfl) (fun _ _ _ h => h) ?_ (by assumption) ?_
                  · intro o ho w hSw
                    obtain ⟨_, hs1, hs2⟩ := hSw
                    unfold execOp
                    rw [ho]
                    go_simp
                  try simp only [Act.put, List.setIfInBounds_toArray, List.set_cons_zero, List.set_cons_succ]
                  refine wpAnyH_takeK (i := 18) (d := 89) (.pick (.tmp 75) (.const (.bool true)) (.tmp 88)) (.bool false) (by kernel_rfl) (by kernel_rfl) (by kernel_rfl) (by kernel_rfl) (fun _ _ _ h => h) ?_ (by assumption) ?_
                  · intro o ho w hSw
                    obtain ⟨_, hs1, hs2⟩ := hSw
                    unfold execOp
                    rw [ho]
                    go_simp
                  try simp only [Act.put, List.setIfInBounds_toArray, List.set_cons_zero, List.set_cons_succ]
                  refine wpAnyH_done (by kernel_rfl) ?_ _
                  refine NoPanic.normal ?_
                  go_wp2
                  refine ⟨⟨j + 1, by go_num, by omega, by rw [HTO2.out]; go_num, Lib.hid (hkq.out.kept (HK1.out.trans' (Kept.of_below [] hb8))), Lib.hid (hlq.out.kept (HK1.out.trans' (Kept.of_below [] hb8)) (fun x hx => by cases hx))⟩, ?_⟩
                  simp [intOf]; omega
                · go_simp
                  go_at_call 33
                  with_reducible refine (HD1.out _).mono ?_
                  rintro e w8 ⟨rfl, hb8⟩
                  refine hK.out _ _ (HS.out _ (HK1.out.trans' (Kept.of_below [] hb8))) (fun hHeld3 => ?_)
                  clear hK K
                  try simp only [Act.put, List.setIfInBounds_toArray, List.set_cons_zero, List.set_cons_succ]
                  have hcvC := HCA.out w8 ((hb8.cell (p := ⟨wr.heap.size, 0, none⟩) (Nat.lt_of_lt_of_eq (Nat.lt_succ_self _) (by simp))).trans ((World.cell?_alloc_mark wr _ _ (0, 0) 0).trans rfl))
                  refine wpAnyH_ready (rs := [12]) (by kernel_rfl) (by simp) ?_
                  refine (AllReadyH.cons (o := { dst := some 83, op := Op.convert 54 9 (Operand.tmp 82), type := 9, pos := "three.go:60", after := #[{ on := 11, ground := Ground.data }, { on := 4, ground := Ground.guard }], guard := some (4, false) }) (by kernel_rfl) (fun K hK => ?_) AllReadyH.nil)
                  go_simp
                  refine hK.out _ _ (HS.out _ (HK1.out.trans' (Kept.of_below [] hb8))) (fun hHeld4 => ?_)
                  clear hK K
                  try simp only [Act.put, List.setIfInBounds_toArray, List.set_cons_zero, List.set_cons_succ]
                  refine wpAnyH_takeK (i := 15) (d := 86) (.binOp .add 9 (.tmp 83) (.tmp 85) 9) (.string Y) (by kernel_rfl) (by kernel_rfl) (by kernel_rfl) (by kernel_rfl) (fun _ _ _ h => h) ?_ (by assumption) ?_
                  · intro o ho w hSw
                    obtain ⟨_, hs1, hs2⟩ := hSw
                    unfold execOp
                    rw [ho]
                    go_simp
                  try simp only [Act.put, List.setIfInBounds_toArray, List.set_cons_zero, List.set_cons_succ]
                  refine wpAnyH_takeK (i := 16) (d := 87) (.build 57 #[(0, .const (.int .i64 32)), (1, .tmp 86)]) (.agg #[.int .i64 32, .string Y]) (by kernel_rfl) (by kernel_rfl) (by kernel_rfl) (by kernel_rfl) (fun _ _ _ h => h) ?_ (by assumption) ?_
                  · intro o ho w hSw
                    obtain ⟨_, hs1, hs2⟩ := hSw
                    unfold execOp
                    rw [ho]
                    go_simp
                  try simp only [Act.put, List.setIfInBounds_toArray, List.set_cons_zero, List.set_cons_succ]
                  refine wpAnyH_takeK (i := 17) (d := 88) (.binOp .neq 57 (.tmp 79) (.tmp 87) 57) (.bool false) (by kernel_rfl) (by kernel_rfl) (by kernel_rfl) (by kernel_rfl) (fun _ _ _ h => h) ?_ (by assumption) ?_
                  · intro o ho w hSw
                    obtain ⟨_, hs1, hs2⟩ := hSw
                    unfold execOp
                    rw [ho]
                    go_simp
                  try simp only [Act.put, List.setIfInBounds_toArray, List.set_cons_zero, List.set_cons_succ]
                  refine wpAnyH_takeK (i := 18) (d := 89) (.pick (.tmp 75) (.const (.bool true)) (.tmp 88)) (.bool false) (by kernel_rfl) (by kernel_rfl) (by kernel_rfl) (by kernel_rfl) (fun _ _ _ h => h) ?_ (by assumption) ?_
                  · intro o ho w hSw
                    obtain ⟨_, hs1, hs2⟩ := hSw
                    unfold execOp
                    rw [ho]
                    go_simp
                  try simp only [Act.put, List.setIfInBounds_toArray, List.set_cons_zero, List.set_cons_succ]
                  refine wpAnyH_done (by kernel_rfl) ?_ _
                  refine NoPanic.normal ?_
                  go_wp2
                  refine ⟨⟨j + 1, by go_num, by omega, by rw [HTO2.out]; go_num, Lib.hid (hkq.out.kept (HK1.out.trans' (Kept.of_below [] hb8))), Lib.hid (hlq.out.kept (HK1.out.trans' (Kept.of_below [] hb8)) (fun x hx => by cases hx))⟩, ?_⟩
                  simp [intOf]; omega
              · go_simp
                go_at_call 33
                with_reducible refine (HD1.out _).mono ?_
                rintro e w8 ⟨rfl, hb8⟩
                refine hK.out _ _ (HS.out _ (HK0.out.trans' (Kept.of_below [] hb8))) (fun hHeld2 => ?_)
                clear hK K
                try simp only [Act.put, List.setIfInBounds_toArray, List.set_cons_zero, List.set_cons_succ]
                have hcvB := HCB.out (w8.alloc (.cells #[.int .u8 (F : Int)] 5)) w8.heap.size ((World.cell?_alloc_mark w8 _ _ (0, 0) 0).trans rfl)
                refine wpAnyH_ready (rs := [11]) (by kernel_rfl) (by simp) ?_
                refine (AllReadyH.cons (o := { dst := some 82, op := Op.buildSlice 54 1 #[(0, Operand.tmp 81)], type := 54, pos := "three.go:60", after := #[{ on := 10, ground := Ground.data }, { on := 4, ground := Ground.guard }], guard := some (4, false) }) (by kernel_rfl) (fun K hK => ?_) AllReadyH.nil)
                go_simp
                refine hK.out _ _ (HS.out _ ((HK0.out.trans' (Kept.of_below [] hb8)).alloc _)) (fun hHeld3 => ?_)
                clear hK K
                try simp only [Act.put, List.setIfInBounds_toArray, List.set_cons_zero, List.set_cons_succ]
                refine wpAnyH_ready (rs := [12]) (by kernel_rfl) (by simp) ?_
                refine (AllReadyH.cons (o := { dst := some 83, op := Op.convert 54 9 (Operand.tmp 82), type := 9, pos := "three.go:60", after := #[{ on := 11, ground := Ground.data }, { on := 4, ground := Ground.guard }], guard := some (4, false) }) (by kernel_rfl) (fun K hK => ?_) AllReadyH.nil)
                go_simp
                refine hK.out _ _ (HS.out _ ((HK0.out.trans' (Kept.of_below [] hb8)).alloc _)) (fun hHeld4 => ?_)
                clear hK K
                try simp only [Act.put, List.setIfInBounds_toArray, List.set_cons_zero, List.set_cons_succ]
                refine wpAnyH_takeK (i := 15) (d := 86) (.binOp .add 9 (.tmp 83) (.tmp 85) 9) (.string Y) (by kernel_rfl) (by kernel_rfl) (by kernel_rfl) (by kernel_rfl) (fun _ _ _ h => h) ?_ (by assumption) ?_
                · intro o ho w hSw
                  obtain ⟨_, hs1, hs2⟩ := hSw
                  unfold execOp
                  rw [ho]
                  go_simp
                try simp only [Act.put, List.setIfInBounds_toArray, List.set_cons_zero, List.set_cons_succ]
                refine wpAnyH_takeK (i := 16) (d := 87) (.build 57 #[(0, .const (.int .i64 32)), (1, .tmp 86)]) (.agg #[.int .i64 32, .string Y]) (by kernel_rfl) (by kernel_rfl) (by kernel_rfl) (by kernel_rfl) (fun _ _ _ h => h) ?_ (by assumption) ?_
                · intro o ho w hSw
                  obtain ⟨_, hs1, hs2⟩ := hSw
                  unfold execOp
                  rw [ho]
                  go_simp
                try simp only [Act.put, List.setIfInBounds_toArray, List.set_cons_zero, List.set_cons_succ]
                refine wpAnyH_takeK (i := 17) (d := 88) (.binOp .neq 57 (.tmp 79) (.tmp 87) 57) (.bool false) (by kernel_rfl) (by kernel_rfl) (by kernel_rfl) (by kernel_rfl) (fun _ _ _ h => h) ?_ (by assumption) ?_
                · intro o ho w hSw
                  obtain ⟨_, hs1, hs2⟩ := hSw
                  unfold execOp
                  rw [ho]
                  go_simp
                try simp only [Act.put, List.setIfInBounds_toArray, List.set_cons_zero, List.set_cons_succ]
                refine wpAnyH_takeK (i := 18) (d := 89) (.pick (.tmp 75) (.const (.bool true)) (.tmp 88)) (.bool false) (by kernel_rfl) (by kernel_rfl) (by kernel_rfl) (by kernel_rfl) (fun _ _ _ h => h) ?_ (by assumption) ?_
                · intro o ho w hSw
                  obtain ⟨_, hs1, hs2⟩ := hSw
                  unfold execOp
                  rw [ho]
                  go_simp
                try simp only [Act.put, List.setIfInBounds_toArray, List.set_cons_zero, List.set_cons_succ]
                refine wpAnyH_done (by kernel_rfl) ?_ _
                refine NoPanic.normal ?_
                go_wp2
                refine ⟨⟨j + 1, by go_num, by omega, by rw [HTO2.out]; go_num, Lib.hid (hkq.out.kept ((HK0.out.trans' (Kept.of_below [] hb8)).alloc _)), Lib.hid (hlq.out.kept ((HK0.out.trans' (Kept.of_below [] hb8)).alloc _) (fun x hx => by cases hx))⟩, ?_⟩
                simp [intOf]; omega
          · obtain rfl : j = 4 := by omega
            have d8 : decide (((4 : Nat) : Int) < 4) = false := decide_eq_false (by omega)
            rw [HN.out]
            have HDQ := Lib.hid (HDN.out wr hkq.out)
            by_cases hN0 : N = 0
            · have bN : ((N : Int) == 0) = true := by rw [hN0]; rfl
              rw [decide_eq_true hN0] at HDQ
              go_wp2_with (go_at_call 35; (with_reducible refine HDQ.out.mono ?_); rintro e w9 ⟨rfl, h9⟩; have H9 := Lib.hid h9; have hln := HLN.out w9 h9; clear h9)
              refine ⟨⟨k + 1, by go_num, by omega, H9⟩, ?_⟩
              simp [intOf]; omega
            · have bN : ((N : Int) == 0) = false := by rw [beq_eq_false_iff_ne]; omega
              rw [decide_eq_false hN0] at HDQ
              go_wp2_with (go_at_call 35; (with_reducible refine HDQ.out.mono ?_); rintro e w9 ⟨rfl, h9⟩; have H9 := Lib.hid h9; have hln := HLN.out w9 h9; clear h9)
              refine ⟨⟨k + 1, by go_num, by omega, H9⟩, ?_⟩
              simp [intOf]; omega
      · obtain rfl : k = K + 1 := by omega
        have d9 : decide (((K + 1 : Nat) : Int) ≤ (K : Int)) = false := decide_eq_false (by omega)
        have d9' : decide ((K : Int) + 1 ≤ (K : Int)) = false := decide_eq_false (by omega)
        have hkn1 := hkw.out
        have HC1 : Hid (C < wr.heap.size ∧ B ≤ wr.heap.size) := Lib.hid ⟨hkn1.n.1.lt, by have := hkn1.n.1.lt; have := hkn1.n.2.1; omega⟩
        have HTK : Hid (Calls Tryz.prog 31 #[.pointer (some ⟨C, 0, none⟩), .slice (some ⟨wr.heap.size, 0, none⟩) 1 1] (wr.alloc (.cells #[.int .i64 34, .string ⟨#[8, 1]⟩] 57)) fun e w' => e = .returned (.bool true) ∧ NgM (nkS ks) [⟨33, [8]⟩] C B w wr w') := Lib.hid (by
          have h9 := hkn1.n.one ⟨34, [8, 1]⟩ (by simp)
          rw [nk_hear] at h9
          exact h9)
        have HMK : Hid (∀ W, Kept [C] wr W → ∀ ty, (Builtin.len_ #[65] ty #[.map (some b)]).run Tryz.prog W = .ok (.int .i64 (N : Int)) W) := Lib.hid (fun W hkW ty => by
          have h9 := (hkn1.m.kept hkW (by simpa using hkn1.ne.1)).len ty
          rw [HN.out] at h9
          exact h9)
        have HOP2 : Hid (∀ W, NgM (nkS ks) [⟨33, [8]⟩] C B w wr W → Calls Tryz.prog 39 #[.pointer (some ⟨C, 0, none⟩)] W fun e w' => ∃ g cap, e = .returned (.slice (some ⟨g, 0, none⟩) (N + 1) cap) ∧ w'.cell? ⟨g, 0, none⟩ = some (.int .i64 33) ∧ w'.cell? ⟨g, 1, none⟩ = some (.string ⟨#[8]⟩) ∧ Kept [C] wr w' ∧ Below B w w' ∧ N + 1 ≤ cap) := Lib.hid (fun W h => by
          refine (h.opts (by simp) HC1.out.1 HC1.out.2).mono ?_
          rintro e w' ⟨v, rfl, p1, p2, p3⟩
          rw [nk_asks] at p1
          have hlen : (([⟨33, [8]⟩] : List M.Opt) ++ nkTo ks 4).length = N + 1 := by rw [List.length_append, HN.out]; simp; omega
          rcases p1.1.2 with ⟨_, h0⟩ | ⟨g, cap, cur, rfl, _⟩
          · omega
          · have hN1 := hlen
            rw [hN1] at p1
            have hq := p1.1.cellsN (p := some ⟨g, 0, none⟩) (cap := cap) 0 (by omega)
            obtain ⟨_, g2, e2, _, e4, e5, e6⟩ := hq
            have e3 : g = g2 := by
              injection e2 with e2
              injection e2 with e2
            subst e3
            rw [hN1]
            exact ⟨g, cap, rfl, e5, e6, p3, p2.2.2.1, e4⟩)
        clear hkn1 hn hl hk hkk hkn
        have hN4 := HTL.out
        have n1 : IntKind.i64.wrap ((N : Int) + 1) = (N : Int) + 1 := by rw [IntKind.wrap_i64]; omega
        have n2 : wrap64 ((N : Int) + 1) = (N : Int) + 1 := by unfold wrap64; omega
        obtain ⟨N1, hN1⟩ : ∃ N1, N + 1 = N1 := ⟨_, rfl⟩
        have hN1i : (N : Int) + 1 = (N1 : Int) := by rw [← hN1]; rfl
        have hN1p : 0 < N1 := by rw [← hN1]; exact Nat.succ_pos N
        rw [hN1] at HOP2
        rw [hN1i] at n1 n2
        clear hN1 d9 d9'
        have d9 : decide (((K + 1 : Nat) : Int) ≤ (K : Int)) = false := decide_eq_false (by omega)
        have d9' : decide ((K : Int) + 1 ≤ (K : Int)) = false := decide_eq_false (by omega)
        go_wp2_with (first
          | (go_at_call 31; (with_reducible refine HTK.out.mono ?_); rintro e w9 ⟨rfl, h9⟩; have H9 := Lib.hid h9; clear h9)
          | (go_at_call 39; (with_reducible refine (HOP2.out _ H9.out).mono ?_); rintro e w10 ⟨g, cap, rfl, e0, e1, k10, b10, hc10⟩; have hln := HMK.out w10 k10; have HB10 := Lib.hid b10; clear k10 b10))
        go_ret
        exact ⟨rfl, by rw [HBe.out]; exact HB10.out⟩
end Go.Proofs.YtfmnpepgmedfpaaGreatDoor
