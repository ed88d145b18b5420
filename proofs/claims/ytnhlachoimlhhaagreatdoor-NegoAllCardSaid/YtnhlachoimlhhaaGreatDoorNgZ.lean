/-
  One side of agreeing: New.
  One side of agreeing, as a law uses it: each call from what is held to what is held.
  One side of agreeing, as a law uses it: Take of a literal list; Opts.
  One side of agreeing without answers due, as a law with lists of its own uses it: Take of one option, then Opts.
-/
import Derived.Test.YtnhlachoimlhhaaGreatDoorNgY
namespace Go.Proofs.YtnhlachoimlhhaaGreatDoor
open Go.ChangeShapes Go.WideShapes Go.ChangeAt Go.RowKit
set_option linter.unusedVariables false
set_option linter.unusedSimpArgs false

/-- One side, new. -/
def ngInit (server : Bool) : NgS := ⟨server, fun _ => [], ftAll, ftDefault, ftDefault⟩
theorem ftAll_len (f : Int) : (ftAll f).length ≤ 16 := by
  by_cases h1 : f = 1
  · subst h1; rw [ftAll_1]; decide +kernel
  · by_cases h6 : f = 6
    · subst h6; rw [ftAll_6]; decide +kernel
    · by_cases h8 : f = 8
      · subst h8; rw [ftAll_8]; decide +kernel
      · rw [ftAll_none f h1 h6 h8]; simp
theorem ftDefault_len (f : Int) : (ftDefault f).length ≤ 16 := by
  unfold ftDefault
  split
  · simp
  · split
    · simp
    · split
      · simp
      · split
        · decide +kernel
        · simp
theorem ngInit_ok (server : Bool) : (ngInit server).Ok := ⟨fun f => .inl rfl, ftAll_len, ftDefault_len, ftDefault_len⟩
/-- The block's cells when k features are made. -/
def ngRaw (server : Bool) (k : Nat) : Array Value :=
  (.bool server :: (((List.range 9).flatMap fun j => if j < k then [eS, sV (ftAll (j : Int)), sV (ftDefault (j : Int)), sV (ftDefault (j : Int))] else [eS, eS, eS, eS]) ++ [.slice none 0 0])).toArray
theorem ngRaw_size (server : Bool) (k : Nat) : (ngRaw server k).size = 38 := by
  unfold ngRaw
  simp [List.range_succ, apply_ite List.length]
set_option maxRecDepth 100000 in
theorem ngRaw_succ (server : Bool) (k : Nat) (hk : k < 9) : ((((ngRaw server k).setIfInBounds (1 + k * 4) eS).setIfInBounds (1 + k * 4 + 1) (sV (ftAll (k : Int)))).setIfInBounds (1 + k * 4 + 2) (sV (ftDefault (k : Int)))).setIfInBounds (1 + k * 4 + 3) (sV (ftDefault (k : Int))) = ngRaw server (k + 1) := by
  have h : k = 0 ∨ k = 1 ∨ k = 2 ∨ k = 3 ∨ k = 4 ∨ k = 5 ∨ k = 6 ∨ k = 7 ∨ k = 8 := by omega
  rcases h with rfl | rfl | rfl | rfl | rfl | rfl | rfl | rfl | rfl <;> rfl
set_option maxRecDepth 100000 in
theorem ngRaw_all (server : Bool) : ngRaw server 9 = ngCells (ngInit server) (.slice none 0 0) := by
  have h : ∀ f : Int, f = 0 ∨ f = 2 ∨ f = 4 ∨ f = 5 ∨ f = 7 → sV (ftAll f) = eS := fun f hf => by
    rw [ftAll_none f (by omega) (by omega) (by omega)]
    rfl
  have h0 := h 0 (by decide)
  have h2 := h 2 (by decide)
  have h4 := h 4 (by decide)
  have h5 := h 5 (by decide)
  have h7 := h 7 (by decide)
  show (#[.bool server, eS, sV (ftAll 0), eS, eS, eS, sV (ftAll 1), sV (ftDefault 1), sV (ftDefault 1), eS, sV (ftAll 2), eS, eS, eS, sV (ftAll 3), sV (ftDefault 3), sV (ftDefault 3), eS, sV (ftAll 4), eS, eS, eS, sV (ftAll 5), eS, eS, eS, sV (ftAll 6), sV (ftDefault 6), sV (ftDefault 6), eS, sV (ftAll 7), eS, eS, eS, sV (ftAll 8), sV (ftDefault 8), sV (ftDefault 8), .slice none 0 0] : Array Value) = _
  rw [h0, h2, h4, h5, h7]
  rfl
set_option maxHeartbeats 4000000 in
set_option maxRecDepth 100000 in
theorem ngNew_any (server : Bool) (w : World) :
    Calls Tryz.prog 15 #[.bool server] w fun e w' => e = .returned (.pointer (some ⟨w.heap.size, 0, none⟩)) ∧ NgAt (ngInit server) (.slice none 0 0) w.heap.size w' ∧ Below w.heap.size w w' := by
  have HNEW : Hid (BlkIs (ngRaw server 0) 111 w.heap.size (w.alloc (.cells (ngRaw server 0) 111))) := Lib.hid (BlkIs.new _ _ _)
  have HA := Lib.hid (fun f W => negoAll_any f W)
  have HDF := Lib.hid (fun f W => ftDefault_any f W)
  go_enter Tryz.func15, Tryz.ntmps15
  go_wp2
  go_loopw [8] (fun iv wr => ∃ k : Nat, iv = .int .i64 (k : Int) ∧ k ≤ 9 ∧ Hid (BlkIs (ngRaw server k) 111 w.heap.size wr) ∧ Hid (Below w.heap.size w wr)) (fun iv _ => 9 - (intOf iv).toNat)
  case atStart => exact ⟨0, rfl, by decide, HNEW, Lib.hid (bel_alloc _ _)⟩
  case round =>
    clear HNEW
    obtain ⟨k, rfl, hk, hg, hwr⟩ := hrel
    by_cases hk9 : k < 9
    · have d9 : decide ((k : Int) < 9) = true := decide_eq_true (by omega)
      have HB : Hid (BlkIs (ngRaw server k) 111 w.heap.size wr.drew) := Lib.hid (BlkIs.drewN hg.out 1)
      have HK : Hid (Below w.heap.size w wr.drew) := Lib.hid hwr.out.drew
      have HSUC := Lib.hid (ngRaw_succ server k hk9)
      have hsz := ngRaw_size server k
      have hat : ∀ i, i < 38 → ∃ x, (ngRaw server k)[i]? = some x := fun i hi => ⟨_, Array.getElem?_eq_getElem (by omega)⟩
      obtain ⟨x0, hx0⟩ := hat (1 + k * 4) (by omega)
      obtain ⟨x1, hx1⟩ := hat (1 + k * 4 + 1) (by omega)
      obtain ⟨x2, hx2⟩ := hat (1 + k * 4 + 2) (by omega)
      obtain ⟨x3, hx3⟩ := hat (1 + k * 4 + 3) (by omega)
      have HX : Hid ((ngRaw server k)[1 + k * 4]? = some x0 ∧ (ngRaw server k)[1 + k * 4 + 1]? = some x1 ∧ (ngRaw server k)[1 + k * 4 + 2]? = some x2 ∧ (ngRaw server k)[1 + k * 4 + 3]? = some x3) := Lib.hid ⟨hx0, hx1, hx2, hx3⟩
      have HSC := Lib.hid (rfl : sV (ftAll (k : Int)) = .string (str (ftAll (k : Int))))
      have HA1 := Lib.hid (HA.out (k : Int))
      have HD1 := Lib.hid (HDF.out (k : Int))
      have HLE : Hid (w.heap.size < wr.heap.size) := Lib.hid hg.out.lt
      obtain ⟨y1, hy1⟩ : ∃ y, str (ftAll (k : Int)) = y := ⟨_, rfl⟩
      obtain ⟨y2, hy2⟩ : ∃ y, str (ftDefault (k : Int)) = y := ⟨_, rfl⟩
      unfold sV at HSUC
      rw [hy1] at HA1 HSUC
      rw [hy2] at HD1 HSUC
      clear hx0 hx1 hx2 hx3 hat hsz hy1 hy2 HSC HA HDF
      go_upto_region 5 with (fail)
      go_region_with (first
        | (go_at_call 62; (with_reducible refine (HA1.out _).mono ?_); rintro e w1 ⟨rfl, hb1⟩; have HB1 := Lib.hid (BlkIs.below HB.out hb1); have HK1 := Lib.hid (bel_trans HK.out hb1))
        | (go_at_call 47; (with_reducible refine (HD1.out _).mono ?_); rintro e w2 ⟨rfl, hb2⟩; (first
            | (have HB3 := Lib.hid (BlkIs.below HB2.out hb2); have HK3 := Lib.hid (bel_trans HK2.out hb2); have c0 := (BlkIs.cell HB3.out (1 + k * 4)).trans HX.out.1; have c1 := (BlkIs.cell HB3.out (1 + k * 4 + 1)).trans HX.out.2.1; have c2 := (BlkIs.cell HB3.out (1 + k * 4 + 2)).trans HX.out.2.2.1; have c3 := (BlkIs.cell HB3.out (1 + k * 4 + 3)).trans HX.out.2.2.2; have f0 := BlkIs.free HB3.out (1 + k * 4); have f1 := BlkIs.free HB3.out (1 + k * 4 + 1); have f2 := BlkIs.free HB3.out (1 + k * 4 + 2); have f3 := BlkIs.free HB3.out (1 + k * 4 + 3))
            | (have HB2 := Lib.hid (BlkIs.below HB1.out hb2); have HK2 := Lib.hid (bel_trans HK1.out hb2)))))
      all_goals
        go_wp2
        refine ⟨⟨k + 1, by go_num, by omega, Lib.hid ?_, Lib.hid ?_⟩, ?_⟩
        · rw [← HSUC.out]
          exact BlkIs.set (BlkIs.set (BlkIs.set (BlkIs.set HB3.out _ _) _ _) _ _) _ _
        · exact ((((Kept.of_below [] HK3.out).setCell (.inr (Nat.le_refl _)) _).setCell (.inr (Nat.le_refl _)) _).setCell (.inr (Nat.le_refl _)) _ |>.setCell (.inr (Nat.le_refl _)) _).below0
        · simp [intOf]; omega
    · obtain rfl : k = 9 := by omega
      have hE := hg.out
      rw [ngRaw_all] at hE
      have HE := Lib.hid hE
      clear hE
      go_wp2
      go_ret
      exact ⟨rfl, HE.out, hwr.out⟩
end Go.Proofs.YtnhlachoimlhhaaGreatDoor

namespace Go.Proofs.YtnhlachoimlhhaaGreatDoor
open Go.ChangeShapes Go.WideShapes Go.ChangeAt Go.RowKit
set_option linter.unusedVariables false
set_option linter.unusedSimpArgs false

theorem text_cutN (s : ByteArray) (n : Nat) (hn : n ≤ 9223372036854775807) (hs : s.size ≤ maxLen) : ∃ l : List UInt8, l.length ≤ n ∧ ∀ W, Calls Tryz.prog 17 #[.string s, .int .i64 n] W fun e w' => e = .returned (.string (str l)) ∧ W = w' := by
  refine ⟨(s.extract 0 (min s.size n)).data.toList, ?_, fun W => ?_⟩
  · have h : (s.extract 0 (min s.size n)).data.toList.length = (s.extract 0 (min s.size n)).size := rfl
    rw [h, ByteArray.size_extract]
    omega
  · rw [← str_eq]
    exact text_any s n hn hs W
theorem mod_atN (x m : Int) (hm : 0 < m) : ∃ a, x.tmod m = a ∧ -m < a ∧ a < m ∧ ∃ j : Nat, (a + m).tmod m = (j : Int) ∧ (j : Int) < m := by
  refine ⟨x.tmod m, rfl, ?_⟩
  have h : -m < x.tmod m ∧ x.tmod m < m := by
    by_cases h : 0 ≤ x
    · rw [Int.tmod_eq_emod_of_nonneg h]
      have := Int.emod_nonneg x (show m ≠ 0 by omega)
      have := Int.emod_lt_of_pos x hm
      omega
    · have e : x.tmod m = -((-x).tmod m) := by rw [Int.neg_tmod]; omega
      rw [e, Int.tmod_eq_emod_of_nonneg (by omega)]
      have := Int.emod_nonneg (-x) (show m ≠ 0 by omega)
      have := Int.emod_lt_of_pos (-x) hm
      omega
  refine ⟨h.1, h.2, ((x.tmod m + m).tmod m).toNat, ?_, ?_⟩
  · have : 0 ≤ (x.tmod m + m).tmod m := Int.tmod_nonneg _ (by omega)
    omega
  · have h1 : 0 ≤ (x.tmod m + m).tmod m := Int.tmod_nonneg _ (by omega)
    have h2 : (x.tmod m + m).tmod m < m := by
      rw [Int.tmod_eq_emod_of_nonneg (by omega)]
      exact Int.emod_lt_of_pos _ hm
    omega
theorem opts_oneN (w : World) (o : M.Opt) (ho : o.d.length ≤ maxLen) : OptsAt (w.alloc (OvBox o)) (.slice (some ⟨w.heap.size, 0, none⟩) 1 1) [o] := by
  refine ⟨.inr ⟨w.heap.size, 0, 1, rfl, by simp, fun i hi => ?_⟩, by simp, by simpa using ho⟩
  obtain rfl : i = 0 := by simp at hi; omega
  have h := OvBlk.new o w
  rw [cell_of_row _ _ _ _ _ _ h, cell_of_row _ _ _ _ _ _ h]
  exact ⟨rfl, rfl⟩
theorem NgS.take_one (s : NgS) (os : List M.Opt) (o : M.Opt) : s.take os [o] = s.take1 os o false := by
  unfold NgS.take
  show s.takeTo os [o] 1 = _
  rw [NgS.takeTo_step s os [o] 0 rfl]
  rfl
/-- One side lies at C, made since w0; nothing below B has turned. -/
def NgL (s : NgS) (os : List M.Opt) (C B : Nat) (w0 W : World) : Prop :=
  ∃ v, NgAt s v C W ∧ OpRow v os W ∧ (∀ g, v.ownBlock = some g → B ≤ g) ∧ B ≤ C ∧ Below B w0 W ∧ B ≤ w0.heap.size ∧ s.Ok
theorem NgL.below {s : NgS} {os : List M.Opt} {C B : Nat} {w0 W W' : World} (h : NgL s os C B w0 W) (hb : Below W.heap.size W W') : NgL s os C B w0 W' := by
  obtain ⟨v, h1, h2, h3, h4, h5, h6, h7⟩ := h
  exact ⟨v, BlkIs.below h1 hb, h2.kept (Kept.of_below [] hb) (fun _ _ h => by cases h), h3, h4, h5.trans (hb.mono (by have := h5.size; omega)), h6, h7⟩
theorem NgL.to {s2 : NgS} {os2 : List M.Opt} {C B : Nat} {v : Value} {w0 W W' : World} (h3 : ∀ g, v.ownBlock = some g → B ≤ g) (h4 : B ≤ C) (h5 : Below B w0 W) (h6 : B ≤ w0.heap.size) (h7 : s2.Ok) (h : NgTo s2 os2 C v W W') : NgL s2 os2 C B w0 W' := by
  obtain ⟨v2, a, b, c, d⟩ := h
  have hs := h5.size
  refine ⟨v2, b, a, fun g hg => ?_, h4, h5.trans (c.below (by omega) (fun x hx => ?_)), h6, h7⟩
  · rcases d g hg with h | h
    · exact h3 g h
    · omega
  · rcases List.mem_cons.1 hx with e | e
    · omega
    · exact h3 x (mem_ownB.1 e)
theorem NgL.new (server : Bool) (B : Nat) (w0 W : World) (hb : Below B w0 W) (hB : B ≤ w0.heap.size) :
    Calls Tryz.prog 15 #[.bool server] W fun e w' => ∃ C, e = .returned (.pointer (some ⟨C, 0, none⟩)) ∧ NgL (ngInit server) [] C B w0 w' ∧ C = W.heap.size ∧ Below W.heap.size W w' := by
  refine (ngNew_any server W).mono ?_
  rintro e w' ⟨rfl, h1, h2⟩
  have := hb.size
  exact ⟨_, rfl, ⟨_, h1, OpRow.nil _, (fun g hg => by cases hg), by omega, hb.trans (h2.mono (by omega)), hB, ngInit_ok server⟩, rfl, h2⟩
theorem NgL.one {s : NgS} {os : List M.Opt} {C B : Nat} {w0 W : World} (h : NgL s os C B w0 W) (o : M.Opt) (ho : o.d.length ≤ 1000000) (hl : os.length ≤ 900000) :
    Calls Tryz.prog 24 #[.pointer (some ⟨C, 0, none⟩), .slice (some ⟨W.heap.size, 0, none⟩) 1 1] (W.alloc (OvBox o)) fun e w' => e = .returned (.bool (s.take1 os o false).ok) ∧ NgL (s.take1 os o false).s (s.take1 os o false).due C B w0 w' := by
  obtain ⟨v, g1, g2, g3, g4, g5, g6, g7⟩ := h
  have k : Kept [] W (W.alloc (OvBox o)) := (Kept.refl [] W).alloc _
  have hs := g5.size
  refine (ngTake_any s os v _ [o] g7 C _ (BlkIs.kept g1 k (by simp)) (g2.kept k (fun _ _ h => by cases h)) (by simp; omega) (opts_oneN W o (by unfold maxLen; omega)) (fun b hb => ?_)).mono ?_
  · have e : W.heap.size = b := by simpa [Value.ownBlock] using hb
    subst e
    refine ⟨by have := g1.lt; omega, fun hv => ?_⟩
    have := g2.lt _ hv
    omega
  · rintro e w' ⟨rfl, h2⟩
    rw [NgS.take_one] at h2 ⊢
    exact ⟨rfl, NgL.to (v := v) g3 g4 (g5.trans (k.below0.mono (by omega))) g6 (g7.take1 _ _ _).1 h2⟩
theorem NgL.want {s : NgS} {os : List M.Opt} {C B : Nat} {w0 W : World} (h : NgL s os C B w0 W) (f : Int) (l : List UInt8) (hl : l.length ≤ 9223372036854775807) :
    Calls Tryz.prog 18 #[.pointer (some ⟨C, 0, none⟩), .int .i64 f, .string (str l)] W fun e w' => e = .returned (.int .i64 (ngJudge f l)) ∧ NgL (if ngJudge f l = 0 then { s with want := upd s.want f l } else s) os C B w0 w' := by
  obtain ⟨v, g1, g2, g3, g4, g5, g6, g7⟩ := h
  refine (ngWant_any s v f l hl C W g1).mono ?_
  rintro e w' ⟨rfl, h1, h2⟩
  have hne := g2.blk g1 (by decide)
  refine ⟨rfl, v, h1, g2.kept h2 (fun g hg hm => ?_), g3, g4, g5.trans (h2.below (by have := g5.size; omega) (fun x hx => by rw [List.mem_singleton.1 hx]; exact g4)), g6, ?_⟩
  · rw [List.mem_singleton.1 hm] at hg
    exact hne hg
  · split
    · rename_i hj
      refine g7.want_ f l ?_
      unfold ngJudge at hj
      by_cases hk : ftKnown f = true
      · rw [if_pos hk] at hj
        by_cases hm : ftMay f l = true
        · exact hm
        · rw [if_neg hm] at hj
          cases hj
      · rw [if_neg hk] at hj
        cases hj
    · exact g7
theorem NgL.mine {s : NgS} {os : List M.Opt} {C B : Nat} {w0 W : World} (h : NgL s os C B w0 W) (f : Int) :
    Calls Tryz.prog 28 #[.pointer (some ⟨C, 0, none⟩), .int .i64 f] W fun e w' => e = .returned (.string (str (if ftKnown f = true then s.mine f else []))) ∧ ∃ n, w' = W.drewN n := by
  obtain ⟨v, g1, _⟩ := h
  exact ngMine_any s v f C W g1
theorem NgL.theirs {s : NgS} {os : List M.Opt} {C B : Nat} {w0 W : World} (h : NgL s os C B w0 W) (f : Int) :
    Calls Tryz.prog 29 #[.pointer (some ⟨C, 0, none⟩), .int .i64 f] W fun e w' => e = .returned (.string (str (if ftKnown f = true then s.theirs f else []))) ∧ ∃ n, w' = W.drewN n := by
  obtain ⟨v, g1, _⟩ := h
  exact ngTheirs_any s v f C W g1
theorem NgL.done {s : NgS} {os : List M.Opt} {C B : Nat} {w0 W : World} (h : NgL s os C B w0 W) :
    Calls Tryz.prog 26 #[.pointer (some ⟨C, 0, none⟩)] W fun e w' => e = .returned (.bool s.done) ∧ Below W.heap.size W w' := by
  obtain ⟨v, g1, _⟩ := h
  exact ngDone_any s v C W g1
theorem NgL.bel {s : NgS} {os : List M.Opt} {C B : Nat} {w0 W : World} (h : NgL s os C B w0 W) : Below B w0 W := by
  obtain ⟨v, g1, g2, g3, g4, g5, g6, g7⟩ := h
  exact g5
end Go.Proofs.YtnhlachoimlhhaaGreatDoor

namespace Go.Proofs.YtnhlachoimlhhaaGreatDoor
open Go.ChangeShapes Go.WideShapes Go.ChangeAt Go.RowKit
set_option linter.unusedVariables false
set_option linter.unusedSimpArgs false

theorem opts_listN (w : World) (os : List M.Opt) (hl : os.length ≤ 1000000) (ho : ∀ o ∈ os, o.d.length ≤ maxLen) : OptsAt (w.alloc (.cells (ovList os).toArray 106)) (.slice (some ⟨w.heap.size, 0, none⟩) os.length os.length) os := by
  refine ⟨.inr ⟨w.heap.size, 0, os.length, rfl, by simp, fun i hi => ?_⟩, by omega, ho⟩
  have h := BlkIs.new (ovList os).toArray 106 w
  have hg := ovList_get os i hi
  rw [BlkIs.cell h (0 + i * 2), BlkIs.cell h (0 + i * 2 + 1), Nat.zero_add]
  simpa using hg
theorem NgL.list {s : NgS} {os : List M.Opt} {C B : Nat} {w0 W : World} (h : NgL s os C B w0 W) (los : List M.Opt) (ho : ∀ o ∈ los, o.d.length ≤ 1000000) (hl : os.length + los.length ≤ 900000) :
    Calls Tryz.prog 24 #[.pointer (some ⟨C, 0, none⟩), .slice (some ⟨W.heap.size, 0, none⟩) los.length los.length] (W.alloc (.cells (ovList los).toArray 106)) fun e w' => e = .returned (.bool (s.take os los).ok) ∧ NgL (s.take os los).s (s.take os los).due C B w0 w' := by
  obtain ⟨v, g1, g2, g3, g4, g5, g6, g7⟩ := h
  have k : Kept [] W (W.alloc (.cells (ovList los).toArray 106)) := (Kept.refl [] W).alloc _
  have hs := g5.size
  refine (ngTake_any s os v _ los g7 C _ (BlkIs.kept g1 k (by simp)) (g2.kept k (fun _ _ h => by cases h)) (by omega) (opts_listN W los (by omega) (fun o h => by have := ho o h; unfold maxLen; omega)) (fun b hb => ?_)).mono ?_
  · have e : W.heap.size = b := by simpa [Value.ownBlock] using hb
    subst e
    refine ⟨by have := g1.lt; omega, fun hv => ?_⟩
    have := g2.lt _ hv
    omega
  · rintro e w' ⟨rfl, h2⟩
    exact ⟨rfl, NgL.to (v := v) g3 g4 (g5.trans (k.below0.mono (by omega))) g6 (g7.takeTo _ _ _).1 h2⟩
/-- Opts: the list is one of its own, and lies apart from the side. -/
theorem NgL.opts {s : NgS} {os : List M.Opt} {C B : Nat} {w0 W : World} (h : NgL s os C B w0 W) (hl : os.length ≤ 900000) :
    Calls Tryz.prog 22 #[.pointer (some ⟨C, 0, none⟩)] W fun e w' => ∃ p cap, e = .returned (.slice p (os ++ s.asks).length cap) ∧ OpRow (.slice p (os ++ s.asks).length cap) (os ++ s.asks) w' ∧ NgL s [] C B w0 w' ∧ (∀ g, (Value.slice p (os ++ s.asks).length cap).ownBlock = some g → B ≤ g) := by
  obtain ⟨v, g1, g2, g3, g4, g5, g6, g7⟩ := h
  have hs := g5.size
  refine (ngOpts_any s os v C W g1 g2 g7 (by omega)).mono ?_
  rintro e w' ⟨v2, rfl, h1, h2, h3, h4⟩
  have hb : ∀ g, v2.ownBlock = some g → B ≤ g := fun g hg => by
    rcases h4 g hg with h | h
    · exact g3 g h
    · omega
  have hn : NgL s [] C B w0 w' := ⟨_, h2, OpRow.nil _, (fun g hg => by cases hg), g4, g5.trans (h3.below (by omega) (fun x hx => by
    rcases List.mem_cons.1 hx with e | e
    · omega
    · exact g3 x (mem_ownB.1 e))), g6, g7⟩
  rcases h1.2 with ⟨rfl, h0⟩ | ⟨g, cap, cur, rfl, _⟩
  · refine ⟨none, 0, by rw [h0], by rw [h0]; exact h1, hn, fun g hg => by cases hg⟩
  · exact ⟨_, cap, rfl, h1, hn, hb⟩
end Go.Proofs.YtnhlachoimlhhaaGreatDoor

namespace Go.Proofs.YtnhlachoimlhhaaGreatDoor
open Go.ChangeShapes Go.WideShapes Go.ChangeAt Go.RowKit
set_option linter.unusedVariables false
set_option linter.unusedSimpArgs false

/-- A list of options that lies apart from C, made since B. -/
def LstAt (v : Value) (os : List M.Opt) (C B : Nat) (W : World) : Prop := OpRow v os W ∧ (∀ g, v.ownBlock = some g → B ≤ g ∧ g ≠ C)
theorem LstAt.kept {v : Value} {os : List M.Opt} {C B : Nat} {S : List Nat} {W W' : World} (h : LstAt v os C B W) (k : Kept S W W') (hS : ∀ x, x ∈ S → x = C ∨ W.heap.size ≤ x) : LstAt v os C B W' :=
  ⟨h.1.kept k (fun g hg hm => by
    rcases hS g hm with e | e
    · exact (h.2 g hg).2 e
    · have := h.1.lt g hg
      omega), h.2⟩
theorem LstAt.one {v : Value} {o : M.Opt} {C B : Nat} {W : World} (h : LstAt v [o] C B W) : ∃ g cap, v = .slice (some ⟨g, 0, none⟩) 1 cap ∧ 1 ≤ cap ∧ W.cell? ⟨g, 0, none⟩ = some (.int .i64 o.t) ∧ W.cell? ⟨g, 1, none⟩ = some (.string (str o.d)) ∧ g < W.heap.size := by
  rcases h.1.2 with ⟨_, h0⟩ | ⟨g, cap, cur, rfl, _, hg, hc, _, _, ht⟩
  · simp at h0
  · have key : ∀ j u, j < 2 → (ovList [o])[j]? = some u → W.cell? ⟨g, j, none⟩ = some u := by
      intro j u hj hu
      rw [cell_of_row W g j cur _ _ hg, ← Array.getElem?_toList]
      rw [← ht, List.getElem?_take_of_lt (by simpa using hj)] at hu
      exact hu
    exact ⟨g, cap, rfl, by simpa using hc, key 0 _ (by decide) rfl, key 1 _ (by decide) rfl, (Array.getElem?_eq_some_iff.1 hg).1⟩
/-- One side with no answers due. -/
def NgN (s : NgS) (C B : Nat) (w0 W : World) : Prop := NgAt s (.slice none 0 0) C W ∧ B ≤ C ∧ Below B w0 W ∧ B ≤ w0.heap.size ∧ s.Ok
theorem NgN.kept {s : NgS} {C B : Nat} {w0 W W' : World} (h : NgN s C B w0 W) (k : Kept [] W W') : NgN s C B w0 W' :=
  ⟨BlkIs.kept h.1 k (by simp), h.2.1, h.2.2.1.trans (k.below0.mono (by have := h.2.2.1.size; have := h.2.2.2.1; omega)), h.2.2.2⟩
/-- With answers due, in a row that was made since W0. -/
def NgM (s : NgS) (os : List M.Opt) (C B : Nat) (w0 W0 W : World) : Prop := ∃ v, NgAt s v C W ∧ OpRow v os W ∧ (∀ g, v.ownBlock = some g → W0.heap.size ≤ g) ∧ B ≤ C ∧ Below B w0 W ∧ B ≤ w0.heap.size ∧ s.Ok ∧ Kept (C :: []) W0 W
theorem NgN.one {s : NgS} {C B : Nat} {w0 W : World} (h : NgN s C B w0 W) (o : M.Opt) (ho : o.d.length ≤ 1000000) :
    Calls Tryz.prog 24 #[.pointer (some ⟨C, 0, none⟩), .slice (some ⟨W.heap.size, 0, none⟩) 1 1] (W.alloc (OvBox o)) fun e w' => e = .returned (.bool (s.take1 [] o false).ok) ∧ NgM (s.take1 [] o false).s (s.take1 [] o false).due C B w0 W w' := by
  obtain ⟨g1, g4, g5, g6, g7⟩ := h
  have k : Kept [] W (W.alloc (OvBox o)) := (Kept.refl [] W).alloc _
  have hs := g5.size
  refine (ngTake_any s [] (.slice none 0 0) _ [o] g7 C _ (BlkIs.kept g1 k (by simp)) (OpRow.nil _) (by simp) (opts_oneN W o (by unfold maxLen; omega)) (fun b hb => ?_)).mono ?_
  · have e : W.heap.size = b := by simpa [Value.ownBlock] using hb
    subst e
    exact ⟨by have := g1.lt; omega, fun hv => by cases hv⟩
  · rintro e w' ⟨rfl, h2⟩
    rw [NgS.take_one] at h2 ⊢
    obtain ⟨v2, a, b, c, d⟩ := h2
    have c2 : Kept [C] W w' := (k.more (fun x hx => by cases hx)).trans' (c.more (fun x hx => by
      rcases List.mem_cons.1 hx with e | e
      · simp [e]
      · cases mem_ownB.1 e))
    refine ⟨rfl, v2, b, a, fun g hg => ?_, g4, g5.trans (c2.below (by omega) (fun x hx => by rw [List.mem_singleton.1 hx]; exact g4)), g6, (g7.take1 _ _ _).1, c2⟩
    rcases d g hg with h | h
    · cases h
    · have := k.size
      omega
theorem NgM.opts {s : NgS} {os : List M.Opt} {C B : Nat} {w0 W0 W : World} (h : NgM s os C B w0 W0 W) (hl : os.length ≤ 900000) (hC : C < W0.heap.size) (hB : B ≤ W0.heap.size) :
    Calls Tryz.prog 22 #[.pointer (some ⟨C, 0, none⟩)] W fun e w' => ∃ v, e = .returned v ∧ LstAt v (os ++ s.asks) C B w' ∧ NgN s C B w0 w' ∧ Kept [C] W0 w' := by
  obtain ⟨v, g1, g2, g3, g4, g5, g6, g7, g8⟩ := h
  have hs := g5.size
  have hs8 := g8.size
  refine (ngOpts_any s os v C W g1 g2 g7 (by omega)).mono ?_
  rintro e w' ⟨v2, rfl, h1, h2, h3, h4⟩
  have k3 : Kept [C] W0 w' := g8.trans h3 (fun x hx => by
    rcases List.mem_cons.1 hx with e | e
    · exact .inl (by simp [e])
    · exact .inr (g3 x (mem_ownB.1 e)))
  refine ⟨v2, rfl, ⟨h1, fun g hg => ?_⟩, ⟨h2, g4, g5.trans (h3.below (by omega) (fun x hx => ?_)), g6, g7⟩, k3⟩
  · rcases h4 g hg with h | h
    · have := g3 g h
      omega
    · omega
  · rcases List.mem_cons.1 hx with e | e
    · omega
    · have := g3 x (mem_ownB.1 e)
      omega
theorem NgN.new (server : Bool) (B : Nat) (w0 W : World) (hb : Below B w0 W) (hB : B ≤ w0.heap.size) :
    Calls Tryz.prog 15 #[.bool server] W fun e w' => e = .returned (.pointer (some ⟨W.heap.size, 0, none⟩)) ∧ NgN (ngInit server) W.heap.size B w0 w' ∧ Below W.heap.size W w' := by
  refine (ngNew_any server W).mono ?_
  rintro e w' ⟨rfl, h1, h2⟩
  have := hb.size
  exact ⟨rfl, ⟨h1, by omega, hb.trans (h2.mono (by omega)), hB, ngInit_ok server⟩, h2⟩
/-- A list that is handed in whole. -/
theorem NgN.hand {s : NgS} {C B : Nat} {w0 W : World} (h : NgN s C B w0 W) (v : Value) (los : List M.Opt) (hL : OpRow v los W) (ho : ∀ o ∈ los, o.d.length ≤ 1000000) (hl : los.length ≤ 900000) (hC : v.ownBlock ≠ some C) :
    Calls Tryz.prog 24 #[.pointer (some ⟨C, 0, none⟩), v] W fun e w' => e = .returned (.bool (s.take [] los).ok) ∧ NgM (s.take [] los).s (s.take [] los).due C B w0 W w' := by
  obtain ⟨g1, g4, g5, g6, g7⟩ := h
  have hs := g5.size
  have hat : OptsAt W v los := OptsOwn.at (B := 0) (W0 := W) ⟨hL, Below.refl _ _, Nat.zero_le _⟩ (by omega) (fun o h => by have := ho o h; unfold maxLen; omega)
  refine (ngTake_any s [] (.slice none 0 0) v los g7 C _ g1 (OpRow.nil _) (by simp; omega) hat (fun b hb => ⟨fun e => hC (e ▸ hb), fun hv => by cases hv⟩)).mono ?_
  rintro e w' ⟨rfl, v2, a, b, c, d⟩
  have c2 : Kept [C] W w' := c.more (fun x hx => by
    rcases List.mem_cons.1 hx with e | e
    · simp [e]
    · cases mem_ownB.1 e)
  refine ⟨rfl, v2, b, a, fun g hg => ?_, g4, g5.trans (c2.below (by omega) (fun x hx => by rw [List.mem_singleton.1 hx]; exact g4)), g6, (g7.takeTo _ _ _).1, c2⟩
  rcases d g hg with h | h
  · cases h
  · exact h
theorem NgM.kept {s : NgS} {os : List M.Opt} {C B : Nat} {w0 W0 W W' : World} (h : NgM s os C B w0 W0 W) (k : Kept [] W W') : NgM s os C B w0 W0 W' := by
  obtain ⟨v, g1, g2, g3, g4, g5, g6, g7, g8⟩ := h
  exact ⟨v, BlkIs.kept g1 k (by simp), g2.kept k (fun _ _ h => by cases h), g3, g4, g5.trans (k.below0.mono (by have := g5.size; omega)), g6, g7, g8.trans' (k.more (fun x hx => by cases hx))⟩
theorem NgM.hand {s : NgS} {os : List M.Opt} {C B : Nat} {w0 W0 W : World} (h : NgM s os C B w0 W0 W) (v : Value) (los : List M.Opt) (hL : OpRow v los W) (ho : ∀ o ∈ los, o.d.length ≤ 1000000) (hl : os.length + los.length ≤ 900000) (hC : v.ownBlock ≠ some C) (hB : B ≤ W0.heap.size) (hg : ∀ g, v.ownBlock = some g → g < W0.heap.size) :
    Calls Tryz.prog 24 #[.pointer (some ⟨C, 0, none⟩), v] W fun e w' => e = .returned (.bool (s.take os los).ok) ∧ NgM (s.take os los).s (s.take os los).due C B w0 W0 w' := by
  obtain ⟨u, g1, g2, g3, g4, g5, g6, g7, g8⟩ := h
  have hs := g5.size
  have hs8 := g8.size
  have hat : OptsAt W v los := OptsOwn.at (B := 0) (W0 := W) ⟨hL, Below.refl _ _, Nat.zero_le _⟩ (by omega) (fun o h => by have := ho o h; unfold maxLen; omega)
  refine (ngTake_any s os u v los g7 C _ g1 g2 (by omega) hat (fun b hb => ⟨fun e => hC (e ▸ hb), fun hv => by have := g3 b hv; have := hg b hb; omega⟩)).mono ?_
  rintro e w' ⟨rfl, v2, a, b, c, d⟩
  have k3 : Kept [C] W0 w' := g8.trans c (fun x hx => by
    rcases List.mem_cons.1 hx with e | e
    · exact .inl (by simp [e])
    · exact .inr (g3 x (mem_ownB.1 e)))
  refine ⟨rfl, v2, b, a, fun g hg => ?_, g4, g5.trans (c.below (by omega) (fun x hx => ?_)), g6, (g7.takeTo _ _ _).1, k3⟩
  · rcases d g hg with h | h
    · exact g3 g h
    · omega
  · rcases List.mem_cons.1 hx with e | e
    · omega
    · have := g3 x (mem_ownB.1 e)
      omega
theorem NgM.done {s : NgS} {os : List M.Opt} {C B : Nat} {w0 W0 W : World} (h : NgM s os C B w0 W0 W) : Calls Tryz.prog 26 #[.pointer (some ⟨C, 0, none⟩)] W fun e w' => e = .returned (.bool s.done) ∧ Below W.heap.size W w' := by
  obtain ⟨v, g1, _⟩ := h
  exact ngDone_any s v C W g1
theorem NgM.mine {s : NgS} {os : List M.Opt} {C B : Nat} {w0 W0 W : World} (h : NgM s os C B w0 W0 W) (f : Int) : Calls Tryz.prog 28 #[.pointer (some ⟨C, 0, none⟩), .int .i64 f] W fun e w' => e = .returned (.string (str (if ftKnown f = true then s.mine f else []))) ∧ ∃ n, w' = W.drewN n := by
  obtain ⟨v, g1, _⟩ := h
  exact ngMine_any s v f C W g1
theorem NgN.theirs {s : NgS} {C B : Nat} {w0 W : World} (h : NgN s C B w0 W) (f : Int) : Calls Tryz.prog 29 #[.pointer (some ⟨C, 0, none⟩), .int .i64 f] W fun e w' => e = .returned (.string (str (if ftKnown f = true then s.theirs f else []))) ∧ ∃ n, w' = W.drewN n := ngTheirs_any s _ f C W h.1
theorem NgN.want {s : NgS} {C B : Nat} {w0 W : World} (h : NgN s C B w0 W) (f : Int) (l : List UInt8) (hm : ftMay f l = true) :
    Calls Tryz.prog 18 #[.pointer (some ⟨C, 0, none⟩), .int .i64 f, .string (str l)] W fun e w' => e = .returned (.int .i64 0) ∧ NgN { s with want := upd s.want f l } C B w0 w' ∧ Kept [C] W w' := by
  have hj : ngJudge f l = 0 := by unfold ngJudge; rw [if_pos (ftMay_known hm), if_pos hm]
  have hl := (ftMay_len hm).1
  have h9 := ngWant_any s (.slice none 0 0) f l (by omega) C W h.1
  rw [hj, if_pos rfl] at h9
  refine h9.mono ?_
  rintro e w' ⟨rfl, h1, h2⟩
  exact ⟨rfl, ⟨h1, h.2.1, h.2.2.1.trans (h2.below (by have := h.2.2.1.size; have := h.2.2.2.1; omega) (fun x hx => by rw [List.mem_singleton.1 hx]; exact h.2.1)), h.2.2.2.1, h.2.2.2.2.want_ f l hm⟩, h2⟩
theorem NgN.apart {s : NgS} {C B D : Nat} {w0 W W' : World} (h : NgN s C B w0 W) (k : Kept [D] W W') (hD : C ≠ D) (hB : B ≤ D) : NgN s C B w0 W' :=
  ⟨BlkIs.kept h.1 k (by simpa using hD), h.2.1, h.2.2.1.trans (k.below (by have := h.2.2.1.size; have := h.2.2.2.1; omega) (fun x hx => by rw [List.mem_singleton.1 hx]; exact hB)), h.2.2.2⟩
end Go.Proofs.YtnhlachoimlhhaaGreatDoor
