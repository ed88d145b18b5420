/-
  What the laid table of the weights says.
  Package sent: where there is no room more.
  Package sent: full, for the law SentFull.
  The law SentFull, walked.
-/
import Derived.Test.YtkpginmdnlhfbaaGreatDoorIvalA
import Derived.Test.YtkpginmdnlhfbaaGreatDoorRows
import Derived.Lib.LaidU8
import Derived.Lib.LaidTab
import Derived.MakeChecks
import Derived.OpenShut
import Derived.Test.YtkpginmdnlhfbaaGreatDoorSnM
import Derived.Deep.RegionLaw
import Derived.Lib.SliceRun
import Derived.Test.YtkpginmdnlhfbaaGreatDoorLfSn
import Derived.Test.YtkpginmdnlhfbaaGreatDoorBegun8
namespace Go.Proofs.YtkpginmdnlhfbaaGreatDoor
open Go.ChangeShapes Go.WideShapes Go.ChangeAt Go.RowKit
set_option linter.unusedVariables false
set_option linter.unusedSimpArgs false

theorem tabW_laid {W : World} {l : List (String × DataW Unit)} (h : laidMet Tryz.prog l W) (hm : ("muleteer/ival.weights", (Rows.laid_muleteer_ival_weights : DataW Unit)) ∈ l) : TabW W := by
  obtain ⟨ps, h, _⟩ := h
  obtain ⟨g, t, cs, fuel, p, hg, ht, hvar, hd⟩ := Lib.LaidVars_reads h _ _ hm
  rw [show (Rows.laid_muleteer_ival_weights : DataW Unit) = Lib.tabData .u64 [5, 5, 5, 5, 4, 3, 2, 1] by kernel_rfl] at hd
  have e : Tryz.prog.globalNamed "muleteer/ival.weights" = some 2 := by kernel_rfl
  obtain rfl := Option.some.inj (e.symm.trans hg)
  obtain rfl : t = 212 := (Option.some.inj ((show (Tryz.prog.globals[2]?).map (·.type) = some 212 by kernel_rfl).symm.trans ht)).symm
  have hc := Lib.cells_of_tab Tryz.underlying212 Tryz.underlying22 (by kernel_rfl) (by kernel_rfl) hd
  obtain ⟨cl⟩ := cs
  simp only at hc
  subst hc
  intro i hi
  have h1 := World.var?_cell e hvar i
  rw [h1]
  obtain rfl | rfl | rfl | rfl | rfl | rfl | rfl | rfl : i = 0 ∨ i = 1 ∨ i = 2 ∨ i = 3 ∨ i = 4 ∨ i = 5 ∨ i = 6 ∨ i = 7 := by omega
  all_goals rfl
end Go.Proofs.YtkpginmdnlhfbaaGreatDoor

namespace Go.Proofs.YtkpginmdnlhfbaaGreatDoor
open Go.ChangeShapes Go.WideShapes Go.ChangeAt Go.RowKit
set_option linter.unusedVariables false
set_option linter.unusedSimpArgs false

theorem kept_setCellsV (S : List Nat) {a : World} (b : Nat) (hb : b ∈ S ∨ a.heap.size ≤ b) : ∀ (vs : List Value) (o : Nat) (w : World), Kept S a w → Kept S a (w.setCells b o vs)
  | [], _, _, h => h
  | v :: vs, o, w, h => kept_setCellsV S b hb vs (o + 1) _ (h.setCell hb v)
theorem run_clearV {P : Program} (w : World) (t e ty : TypeId) (z : Value) (zs : List Value) (ht : P.underlying t = some (.slice e)) (hv : ∀ w, (zeroValue e).run P w = .ok z w) (b o n c : Nat) (hn : 0 < n) (hz : (Builtin.zeroCells z.cells n).toList = zs)
    (hc : ∀ j, j < zs.length → (w.cell? ⟨b, o + j, none⟩).isSome = true) (hf : ∀ j, j < zs.length → w.frozen? ⟨b, o + j, none⟩ = false) (h1 : ∀ v ∈ zs, v.oneCell' = true) :
    (Builtin.clear_ #[t] ty #[.slice (some ⟨b, o, none⟩) n c]).run P w = .ok (.tuple #[]) (w.setCells b o zs) := by
  have hst := run_storeCells_cells (P := P) b o zs 0 w (by simpa using hc) (by simpa using hf) h1
  simp only [Nat.add_zero] at hst
  obtain ⟨m, rfl⟩ : ∃ m, n = m + 1 := ⟨n - 1, by omega⟩
  simp [Builtin.clear_, run_underlying ht, hv, hz, hst]
/-- A stretch of a block is written. -/
theorem BlkIs.segV {T : TypeId} {C : Nat} : ∀ (vs mid h t : List Value) (w : World), mid.length = vs.length → BlkIs (h ++ (mid ++ t)).toArray T C w → BlkIs (h ++ (vs ++ t)).toArray T C (w.setCells C h.length vs) := by
  intro vs
  induction vs with
  | nil =>
    intro mid h t w hl hb
    have : mid = [] := List.length_eq_zero_iff.1 hl
    subst this
    exact hb
  | cons v vs ih =>
    intro mid h t w hl hb
    rcases mid with _ | ⟨m, mid⟩
    · simp at hl
    have h1 := hb.set h.length v
    have e : ((h ++ (m :: mid ++ t)).toArray).setIfInBounds h.length v = ((h ++ [v]) ++ (mid ++ t)).toArray := by
      rw [List.setIfInBounds_toArray, List.set_append_right _ _ (Nat.le_refl _), Nat.sub_self]
      simp
    rw [e] at h1
    have h2 := ih mid (h ++ [v]) t _ (by simpa using hl) h1
    rw [List.length_append] at h2
    have e2 : (h ++ [v]) ++ (vs ++ t) = h ++ (v :: vs ++ t) := by simp
    rw [e2] at h2
    exact h2
theorem zeroRec (w : World) : (zeroValue 103).run Tryz.prog w = .ok (.agg #[.int .u64 0, .int .i64 0, .int .i64 0]) w := by kernel_rfl
set_option maxHeartbeats 4000000 in
set_option maxRecDepth 1000000 in
/-- The first of many records goes. -/
theorem recDelete (l : List Rec) (r : Rec) (g c : Nat) (hl2 : 1 ≤ l.length) (hl3 : l.length ≤ 1000) (w : World) (h : RecRow (r :: l) (.slice (some ⟨g, 0, none⟩) (r :: l).length c) w) :
    Calls Tryz.prog 100 #[.slice (some ⟨g, 0, none⟩) (r :: l).length c, .int .i64 0, .int .i64 1] w fun e w' => e = .returned (.slice (some ⟨g, 0, none⟩) l.length c) ∧ RecRow l (.slice (some ⟨g, 0, none⟩) l.length c) w' ∧ Kept [g] w w' := by
  obtain ⟨N, hN⟩ : ∃ N, l.length = N := ⟨_, rfl⟩
  obtain ⟨cur, hb, hcs, hcc, hcm, htk⟩ : ∃ cur, BlkIs cur 103 g w ∧ cur.size = c * 3 ∧ N + 1 ≤ c ∧ c ≤ 9223372036854775807 ∧ cur.toList.take ((N + 1) * 3) = recList (r :: l) := by
    rcases h.2 with ⟨e9, _⟩ | ⟨g9, cap9, cur, e9, _, hg9, h1, h2, hs9, h3⟩
    · cases e9
    · injection e9 with e1 e2 e3
      injection e1 with e1
      injection e1 with e1
      subst e1 e3
      rw [List.length_cons, hN] at h1 h3
      exact ⟨cur, hg9, hs9, h1, h2, h3⟩
  obtain ⟨i0, hi0, hz0, hz1, hz2⟩ := info_parts infoRec
  -- the block: the first record, the others, the rest
  obtain ⟨T, hT⟩ : ∃ T, cur.toList.drop ((N + 1) * 3) = T := ⟨_, rfl⟩
  have hcur : cur = ((recCells r).toList ++ (recList l ++ T)).toArray := by
    rw [← hT, ← List.append_assoc, show (recCells r).toList ++ recList l = recList (r :: l) from rfl, ← htk, List.take_append_drop]
  subst hcur
  -- as three records of the head, the others behind
  obtain ⟨news, hnews⟩ : ∃ news, recList l = news := ⟨_, rfl⟩
  have hlen : news.length = N * 3 := by rw [← hnews, recList_len, hN]
  obtain ⟨y1, hy1⟩ : ∃ y1, news.drop ((N - 1) * 3) = y1 := ⟨_, rfl⟩
  have hyl : y1.length = 3 := by rw [← hy1, List.length_drop]; omega
  obtain ⟨mid, hmid⟩ : ∃ mid, (recCells r).toList ++ news.take ((N - 1) * 3) = mid := ⟨_, rfl⟩
  have hml : mid.length = N * 3 := by rw [← hmid, List.length_append, List.length_take]; simp [recCells]; omega
  have hsplit : (recCells r).toList ++ (news ++ T) = [] ++ (mid ++ (y1 ++ T)) := by
    rw [← hmid, ← hy1, List.nil_append, List.append_assoc, ← List.append_assoc (news.take _), List.take_append_drop]
  have hc3 : ∀ j u, news[j]? = some u → w.drew.cell? ((⟨g, 3, none⟩ : Addr).add j) = some u := fun j u hu => by
    rw [show (⟨g, 3, none⟩ : Addr).add j = ⟨g, 3 + j, none⟩ from by unfold Addr.add; split <;> simp_all]
    show w.cell? _ = some u
    rw [hb.cell (3 + j), hnews, List.getElem?_toArray, List.getElem?_append_right (show (recCells r).toList.length ≤ 3 + j from Nat.le_add_right 3 j), show 3 + j - (recCells r).toList.length = j from by show 3 + j - 3 = j; omega, List.getElem?_append_left (List.getElem?_eq_some_iff.1 hu).1]
    exact hu
  rw [hnews, hsplit] at hb
  have HC3 := Lib.hid hc3
  have s1 : Hid (news.length = N * 3) := Lib.hid hlen
  have s2 : Hid (∀ u ∈ news, u.oneCell' = true) := Lib.hid (fun u hu => by
    rw [← hnews] at hu
    obtain ⟨x, _, hx⟩ := List.mem_flatMap.1 hu
    simp at hx
    rcases hx with rfl | rfl | rfl <;> rfl)
  have hsome : ∀ j, j < (N + 1) * 3 → (w.cell? ⟨g, j, none⟩).isSome = true := fun j hj => by
    rw [hb.cell j, List.getElem?_toArray, List.nil_append, List.getElem?_eq_getElem (by rw [List.length_append, List.length_append, hml, hyl]; omega)]
    rfl
  have s3 : Hid (∀ t, t < news.length → (w.drew.cell? ⟨g, 0 + 0 * 3 + t, none⟩).isSome = true ∧ w.drew.frozen? ⟨g, 0 + 0 * 3 + t, none⟩ = false) := Lib.hid (fun t ht => by
    rw [hlen] at ht
    exact ⟨hsome _ (by omega), hb.free _⟩)
  have hb1 : BlkIs ([] ++ (news ++ (y1 ++ T))).toArray 103 g (w.drew.setCells g 0 news) := BlkIs.segV news mid [] (y1 ++ T) w.drew (by rw [hml, hlen]) (hb.below (bel_drewN w 1))
  have k1 : Kept [g] w (w.drew.setCells g 0 news) := kept_setCellsV [g] g (.inl (by simp)) news 0 _ ((Kept.refl [g] w).drewN 1)
  obtain ⟨W1, hW1⟩ : ∃ W1, W1 = w.drew.setCells g 0 news := ⟨_, rfl⟩
  rw [← hW1] at hb1 k1
  obtain ⟨z3, hz3⟩ : ∃ z3 : List Value, z3 = [.int .u64 0, .int .i64 0, .int .i64 0] := ⟨_, rfl⟩
  have hb1' : BlkIs (news ++ (y1 ++ T)).toArray 103 g W1 := hb1
  have hcl : ∀ ty, (Builtin.clear_ #[98] ty #[.slice (some ⟨g, N * 3, none⟩) 1 (c - N)]).run Tryz.prog W1 = .ok (.tuple #[]) (W1.setCells g (N * 3) z3) := fun ty =>
    run_clearV W1 _ _ ty _ z3 Tryz.underlying98 zeroRec g (N * 3) 1 (c - N) (by omega) (by rw [hz3]; kernel_rfl) (fun j hj => by
      rw [hz3] at hj
      have hj3 : j < 3 := hj
      rw [hb1'.cell, List.getElem?_toArray, List.getElem?_eq_getElem (by rw [List.length_append, List.length_append, hlen, hyl]; omega)]
      rfl) (fun j _ => hb1'.free _) (fun v hv => by rw [hz3] at hv; simp at hv; rcases hv with rfl | rfl <;> rfl)
  have hb2 : BlkIs (news ++ (z3 ++ T)).toArray 103 g (W1.setCells g (N * 3) z3) := by
    rw [← hlen]
    exact BlkIs.segV z3 y1 news T W1 (by rw [hz3, hyl]; rfl) hb1'
  have k2 : Kept [g] w (W1.setCells g (N * 3) z3) := kept_setCellsV [g] g (.inl (by simp)) z3 _ _ k1
  have hsz : (news ++ (z3 ++ T)).toArray.size = c * 3 := by
    rw [← hcs, List.size_toArray, List.size_toArray, hnews, hsplit]
    simp [hml, hyl, hlen, hz3]
    omega
  have htk2 : (news ++ (z3 ++ T)).toArray.toList.take (N * 3) = news := by
    rw [List.toList_toArray, ← hlen, List.take_left]
  have HB2 := Lib.hid hb2
  have HK2 := Lib.hid k2
  have HSZ := Lib.hid hsz
  have HTK := Lib.hid htk2
  have HNW := Lib.hid hnews
  have hW := Lib.hid hW1
  rw [List.length_cons, hN]
  have q1 : ¬ c = 1 := by omega
  have q2 : 1 ≤ c := by omega
  have q3 : N ≤ c := by omega
  have q4 : N + 1 - N = 1 := by omega
  have q5 : ¬ c = N := by omega
  have q6 : (1 : Int) ≤ (N : Int) + 1 := by omega
  have q7 : (0 : Int) ≤ (N : Int) := by omega
  have q8 : (N : Int) ≤ (N : Int) + 1 := by omega
  clear h hb hc3 hsome hb1 hb1' k1 hb2 k2 hsz htk2 hnews hW1 hlen hml hyl hmid hy1 hsplit htk hT hz3 hcs
  go_enter Tryz.func100, Tryz.ntmps100
  go_wp2_with fail
  have mixed : Tryz.prog.follows .mixedOrders = true := by kernel_rfl
  go_region_law_o (refine step_append_room rfl (.tmp 22) (.tmp 25) 98 rfl 103 i0 3 Tryz.underlying98 hi0 hz1 g 0 0 c (by simp [Act.eval, Act.put]) ⟨g, 3, none⟩ N (c - 1) news (by simp [Act.eval, Act.put]) s1.out HC3.out s2.out (by omega) s3.out ?_; rw [show 0 + 0 * 3 = 0 from rfl, ← hW.out])
  go_wp2
  trace_state
  go_ret
  exact ⟨rfl, ⟨by rw [recList_len], .inr ⟨g, c, _, by rw [hN], Nat.zero_le _, HB2.out, by omega, hcm, HSZ.out, by rw [hN, HTK.out, HNW.out]⟩⟩, HK2.out⟩
/-- The first is out: it stays. -/
theorem roomNo (l : List Rec) (hl : l.length = 200) (h0 : (l.getD 0 (0, 0, 0)).2.2 = 0) (C : Nat) (v : Value) (w : World) (h : SentAt l C v w) :
    Calls Tryz.prog 66 #[.pointer (some ⟨C, 0, none⟩)] w fun e w' => e = .returned (.bool false) ∧ ∃ k, w' = w.drewN k := by
  obtain ⟨g, c, rfl, hc1, hc2, hg, hcell, hfr, _⟩ := h.row.shape (by omega)
  have a0 : w.cell? ⟨C, 0, none⟩ = some (.slice (some ⟨g, 0, none⟩) l.length c) := h.blk.cell 0
  have a1 := (hcell 0 (by omega)).2.2
  rw [h0] at a1
  rw [hl] at a0 hc1
  have a2 : w.cell? ⟨g, 2, none⟩ = some (.int .i64 0) := a1
  clear h hcell hfr a1
  go_enter Tryz.func66, Tryz.ntmps66
  go_wp2
  go_ret
  exact ⟨rfl, 0, rfl⟩
/-- The first is not out: it goes. -/
theorem roomYes (l : List Rec) (r : Rec) (hl : l.length = 199) (h0 : r.2.2 ≠ 0) (hr1 : 0 ≤ r.2.2) (hr2 : r.2.2 ≤ 2) (C g c : Nat) (w : World) (h : SentAt (r :: l) C (.slice (some ⟨g, 0, none⟩) (r :: l).length c) w) :
    Calls Tryz.prog 66 #[.pointer (some ⟨C, 0, none⟩)] w fun e w' => e = .returned (.bool true) ∧ SentAt l C (.slice (some ⟨g, 0, none⟩) l.length c) w' ∧ Kept [C, g] w w' := by
  have hr := h.recs (by simp)
  have a0 : w.cell? ⟨C, 0, none⟩ = some (.slice (some ⟨g, 0, none⟩) (r :: l).length c) := h.blk.cell 0
  have a2 : w.cell? ⟨g, 2, none⟩ = some (.int .i64 r.2.2) := (hr.row 0 r rfl).2.2
  have hc1 := hr.cap1
  have hc2 := hr.cap2
  have hne := hr.ne
  have f0 := h.blk.free 0
  have hlen : (r :: l).length = 200 := by simp [hl]
  have HD := Lib.hid (recDelete l r g c (by omega) (by omega) w h.row)
  have HBK := Lib.hid h.blk
  rw [hlen] at a0 hc1 HD
  have hzb : (r.2.2 == 0) = false := by rw [beq_eq_false_iff_ne]; exact h0
  generalize r.2.2 = st at *
  clear h hr hlen
  go_enter Tryz.func66, Tryz.ntmps66
  go_wp2_with (go_at_call 100; (with_reducible refine HD.out.mono ?_); rintro e w1 ⟨rfl, hr1, hk1⟩; have hb1 := HBK.out.kept hk1 (by simp; exact fun e => hne e.symm); have a1 := BlkIs.cell hb1 0; have f1 := BlkIs.free hb1 0)
  go_ret
  rw [hl] at hr1 ⊢
  refine ⟨rfl, ⟨hb1.set 0 _, hr1.kept ((Kept.refl [C] w1).setCell (.inl (by simp)) _) (fun g' hg' => ?_), fun g' hg' => ?_⟩, (hk1.more (by simp)).setCell (.inl (by simp)) _⟩
  · have : g = g' := by simpa [Value.ownBlock] using hg'
    simp; omega
  · have : g = g' := by simpa [Value.ownBlock] using hg'
    omega
/-- No room: nothing is put. -/
theorem putNo (n : Nat) (t : Int) (ht : 0 ≤ t) (ht2 : t ≤ 4611686018427387904) (C : Nat) (w : World)
    (hmay : Calls Tryz.prog 65 #[.pointer (some ⟨C, 0, none⟩), .int .u64 n] w fun e w' => e = .returned (.bool true) ∧ ∃ k, w' = w.drewN k)
    (hroom : ∀ k, Calls Tryz.prog 66 #[.pointer (some ⟨C, 0, none⟩)] (w.drewN k) fun e w' => e = .returned (.bool false) ∧ ∃ j, w' = (w.drewN k).drewN j) :
    Calls Tryz.prog 20 #[.pointer (some ⟨C, 0, none⟩), .int .u64 n, .int .i64 t] w fun e w' => e = .returned (.bool false) ∧ Below w.heap.size w w' := by
  have HM := Lib.hid hmay
  have HR := Lib.hid hroom
  have i3 : ¬ t < 0 := by omega
  clear hmay hroom
  go_enter Tryz.func20, Tryz.ntmps20
  go_wp2_with (first
    | (go_at_call 65; (with_reducible refine HM.out.mono ?_); rintro e w1 ⟨rfl, k, rfl⟩)
    | (go_at_call 66; (with_reducible refine (HR.out _).mono ?_); rintro e w1 ⟨rfl, j, rfl⟩))
  go_ret
  exact ⟨rfl, bel_drewN _ _⟩
set_option maxHeartbeats 1000000 in
/-- There is no room, and the first is not out: it goes, and one is put. -/
theorem putFull (l : List Rec) (r : Rec) (hl : l.length = 199) (hst : r.2.2 ≠ 0) (hr1 : 0 ≤ r.2.2) (hr2 : r.2.2 ≤ 2) (n : Nat) (hn : n < 281474976710656) (t : Int) (ht : 0 ≤ t) (ht2 : t ≤ 4611686018427387904) (C gg cc : Nat) (w : World) (h0 : SentAt (r :: l) C (.slice (some ⟨gg, 0, none⟩) (r :: l).length cc) w)
    (hmay : Calls Tryz.prog 65 #[.pointer (some ⟨C, 0, none⟩), .int .u64 n] w fun e w' => e = .returned (.bool true) ∧ ∃ k, w' = w.drewN k) :
    Calls Tryz.prog 20 #[.pointer (some ⟨C, 0, none⟩), .int .u64 n, .int .i64 t] w fun e w' => ∃ g c, e = .returned (.bool true) ∧ SentAt (l ++ [(n, t, 0)]) C (.slice (some ⟨g, 0, none⟩) (l.length + 1) c) w' ∧ Kept [C, gg] w w' ∧ (gg = g ∨ w.heap.size ≤ g) := by
  obtain ⟨v, hv⟩ : ∃ v, Value.slice (some ⟨gg, 0, none⟩) l.length cc = v := ⟨_, rfl⟩
  have hvo : v.ownBlock = some gg := by rw [← hv]; rfl
  have HM := Lib.hid hmay
  have HR := Lib.hid (fun k => roomYes l r hl hst hr1 hr2 C gg cc (w.drewN k) (h0.below (bel_drewN w k)))
  rw [hv] at HR
  have HO : Hid (∀ W, Calls Tryz.prog 59 #[.int .u64 n] W fun e w' => e = .returned (.int .u64 n) ∧ W = w') := Lib.hid (fun W => by
    have := seqOf_any n (by omega) W
    rw [show ((n : Int) % 281474976710656) = (n : Int) by omega] at this
    exact this)
  obtain ⟨i0, hi, hz0, hz1, hz2⟩ := info_parts infoRec
  have i1 : min t 4611686018427387904 = t := by omega
  have i2 : (if (4611686018427387904 : Int) < t then (4611686018427387904 : Int) else t) = t := if_neg (by omega)
  have i3 : ¬ t < 0 := by omega
  have HL := Lib.hid (recList_app l [(n, t, 0)])
  have HN := Lib.hid hl
  have HVO := Lib.hid hvo
  clear h0 hmay
  go_enter Tryz.func20, Tryz.ntmps20
  go_upto_region 3 with (first
    | (go_at_call 65; (with_reducible refine HM.out.mono ?_); rintro e w1 ⟨rfl, k, rfl⟩)
    | (go_at_call 66; (with_reducible refine (HR.out _).mono ?_); rintro e w2 ⟨rfl, hs2, hk2⟩))
  have HK0 : Hid (Kept [C, gg] w w2) := Lib.hid (((Kept.refl _ w).drewN k).trans' hk2)
  have H := Lib.hid hs2
  have a0 : w2.cell? ⟨C, 0, none⟩ = some v := hs2.blk.cell 0
  have f0 := hs2.blk.free 0
  have n0 : ∀ o, (w2.alloc o).drew.cell? ⟨C, 0, none⟩ = some v := fun o => (hs2.blk.alloc o).cell 0
  have n1 : ∀ o, (w2.alloc o).cell? ⟨C, 0, none⟩ = some v := fun o => (hs2.blk.alloc o).cell 0
  obtain ⟨B, hB⟩ : ∃ B, w2.heap.size = B := ⟨_, rfl⟩
  clear hs2 hk2 HM HR hvo
  have HRT : Hid (RecRow l v (w2.alloc (.cells #[.int .u64 n, .int .i64 t, .int .i64 0] 103)).drew) := Lib.hid (H.out.row.kept (((Kept.refl [] w2).alloc _).drewN 1) (by simp))
  have HNW : Hid (∀ i u, (recCells (n, t, 0)).toList[i]? = some u → (w2.alloc (.cells #[.int .u64 n, .int .i64 t, .int .i64 0] 103)).drew.cell? ((⟨B, 0, none⟩ : Addr).add i) = some u) := Lib.hid (World.news_of_block (fr := (0, 0)) (t := 103) (by
    have := BlkIs.new (recCells (n, t, 0)) 103 w2
    rw [hB] at this
    exact this.drewN 1))
  have HBK : Hid (BlkIs #[v] 100 C (w2.alloc (.cells #[.int .u64 n, .int .i64 t, .int .i64 0] 103)).drew) := Lib.hid ((H.out.blk.alloc _).drewN 1)
  have HKE : Hid (Kept [C, gg] w (w2.alloc (.cells #[.int .u64 n, .int .i64 t, .int .i64 0] 103)).drew) := Lib.hid ((HK0.out.alloc _).drewN 1)
  have HS1 : Hid (w2.heap.size ≤ (w2.alloc (.cells #[.int .u64 n, .int .i64 t, .int .i64 0] 103)).drew.heap.size) := Lib.hid (((Kept.refl [] w2).alloc (.cells #[.int .u64 n, .int .i64 t, .int .i64 0] 103)).drewN 1).size
  have HNE : Hid (some C ≠ v.ownBlock) := Lib.hid (fun e => H.out.ne C e.symm rfl)
  go_region_law (first
    | (go_simp; go_at_call 59; (with_reducible refine (HO.out _).mono ?_); rintro e w5 ⟨rfl, rfl⟩)
    | (refine step_append_lies _ rfl (.tmp 28) (.tmp 34) 98 rfl 0 103 i0 (.agg #[.int .u64 0, .int .i64 0, .int .i64 0]) 3 24 Tryz.underlying98 hi hz0 hz1 hz2 rfl (by decide) v l.length (recList l) (by simp [Act.eval, Act.put]) HRT.out ⟨B, 0, none⟩ 1 1 (recCells (n, t, 0)).toList (by simp [Act.eval, Act.put]) rfl HNW.out (by intro u hu; simp [recCells] at hu; rcases hu with rfl | rfl | rfl <;> rfl) (by decide) (by unfold maxLen; omega) (by omega) (Nat.zero_le _) _ rfl ?_; intro g2 cap2 w1 hown hgrow hat hlt; have hb1 := BlkIs.grown HBK.out hgrow HNE.out; have hk1 := HKE.out.grown hgrow (fun q hq => .inl (by have := HVO.out; rw [hq] at this; simp at this; simp [this])); have a1 : w1.cell? ⟨C, 0, none⟩ = some v := BlkIs.cell hb1 0; have f1 := BlkIs.free hb1 0))
  all_goals
    go_wp2
    go_ret
    have hCw := H.out.blk.lt
    have hgC : g2 ≠ C := by
      rcases hat with h1 | h1
      · exact H.out.ne g2 h1
      · have h2 : w2.heap.size ≤ g2 := Nat.le_trans HS1.out (Nat.le_of_eq h1.symm)
        omega
    have hr1 : RecRow (l ++ [(n, t, 0)]) (.slice (some ⟨g2, 0, none⟩) (l.length + 1) cap2) w1 := by
      unfold RecRow
      rw [HL.out, List.length_append]
      exact hown
    rw [HN.out] at hr1 ⊢
    refine ⟨g2, cap2, rfl, ⟨hb1.set 0 _, hr1.kept ((Kept.refl [C] w1).setCell (.inl (by simp)) _) (fun g hg => ?_), fun g hg => ?_⟩, hk1.setCell (.inl (by simp)) _, ?_⟩
    · have : g2 = g := by simpa [Value.ownBlock] using hg
      simp; omega
    · have : g2 = g := by simpa [Value.ownBlock] using hg
      omega
    · rcases hat with h1 | h1
      · left; exact Option.some.inj (HVO.out.symm.trans h1)
      · right; exact Nat.le_trans HK0.out.size (Nat.le_trans HS1.out (Nat.le_of_eq h1.symm))
end Go.Proofs.YtkpginmdnlhfbaaGreatDoor

namespace Go.Proofs.YtkpginmdnlhfbaaGreatDoor
open Go.ChangeShapes Go.WideShapes Go.ChangeAt Go.RowKit
set_option linter.unusedVariables false
set_option linter.unusedSimpArgs false

/-- The number i steps on. -/
def mS (first i : Nat) : Nat := (first + i) % 281474976710656
theorem mS_step (first i : Nat) : stepI first (i : Int) = (mS first i : Int) := by unfold stepI mS; omega
theorem mS_lt (first i : Nat) : mS first i < 281474976710656 := Nat.mod_lt _ (by decide)
theorem mS_next (first j : Nat) (hj : j < 200) : diffI (mS first j) (mS first (j + 1)) < 0 := by unfold diffI mS; omega
theorem mS_diff (first j k : Nat) (hj : j < k) (hk : k ≤ 1000) : diffI (mS first j) (mS first k) < 0 := by unfold diffI mS; omega
theorem mS_one (first j : Nat) : stepI (mS first j) 1 = (mS first (j + 1) : Int) := by unfold stepI mS; omega
theorem sfRecs {s : Nat → Nat} {T : Int} {L : List Rec} {C B : Nat} {v : Value} {w0 W : World} (h : SntW s T L C B v w0 W) (hL : 0 < L.length) : ∃ g c, RecsAt L C g c W ∧ B ≤ g := by
  obtain ⟨g, c, e, _⟩ := h.at_.row.shape hL
  have h1 := h.at_
  rw [e] at h1
  exact ⟨g, c, h1.recs hL, h.blk g (by rw [e]; rfl)⟩
/-- It is full of those that are out: none is put. -/
theorem sfPutNo {first : Nat} {T : Int} {L : List Rec} {C B : Nat} {v : Value} {w0 W : World} (h : SntW (mS first) T L C B v w0 W) (hL : L.length = 200) (i : Nat) (hi : 200 ≤ i) (hi2 : i ≤ 1000) :
    Calls Tryz.prog 20 #[.pointer (some ⟨C, 0, none⟩), .int .u64 (mS first i), .int .i64 0] W fun e w' => e = .returned (.bool false) ∧ SntW (mS first) T L C B v w0 w' := by
  refine (putNo (mS first i) 0 (by decide) (by decide) C W ?_ (fun k => ?_)).mono ?_
  · refine sentMay_next L 199 (by omega) (by decide) (mS first i) (mS first 199) (h.inv.num 199 (by omega)) (fun W' => ?_) C v W h.at_
    have h1 := seqLess_any (mS first 199) (mS first i) (by have := mS_lt first 199; omega) (by have := mS_lt first i; omega) W'
    rw [decide_eq_true (mS_diff first 199 i (by omega) (by omega))] at h1
    exact h1
  · exact roomNo L hL (h.inv.out 0 (by omega)) C v (W.drewN k) (h.at_.below (bel_drewN W k))
  · rintro e w' ⟨rfl, hb⟩
    exact ⟨rfl, h.kept (Kept.of_below [] hb) (by simp) (by simp) (by simp)⟩
/-- One cell that lies in a block. -/
theorem sfOne (a r : Int) (hr : -9223372036854775808 ≤ r ∧ r ≤ 9223372036854775807) (b T : Nat) (w : World) (h : BlkIs #[.int .i64 a, .int .i64 r] T b w) : C2At w (.slice (some ⟨b, 0, none⟩) 1 1) [(a, r)] := by
  refine ⟨⟨_, 1, rfl, Nat.le_refl _, by decide, fun i hi => ?_⟩, (by decide : (1 : Nat) ≤ 1073741824), fun i => ?_⟩
  · obtain rfl : i = 0 := by simpa using hi
    exact ⟨b, 0, rfl, h.lt, h.cell 0, h.cell 1⟩
  · rcases i with _ | i
    · exact hr
    · exact (by decide : -9223372036854775808 ≤ (0 : Int) ∧ (0 : Int) ≤ 9223372036854775807)
/-- The first one is heard of. -/
theorem sfHear {first : Nat} (hfi : first < 18446744073709551616) {L : List Rec} (hI : SntI (mS first) 0 L) (hL0 : 0 < L.length) (hL : L.length ≤ 200) (C g c b TT : Nat) (w : World) (h : RecsAt L C g c w) (hv : BlkIs #[.int .i64 0, .int .i64 1] TT b w) :
    Calls Tryz.prog 21 #[.pointer (some ⟨C, 0, none⟩), .int .u64 first, .slice (some ⟨b, 0, none⟩) 1 1, .int .i64 9] w fun e w' => ∃ pG nG pL nL pX nX L1, e = .returned (.agg #[.slice pG 1 nG, .slice pL 0 nL, .slice pX 0 nX, .int .i64 0, .int .i64 9]) ∧ RecsAt L1 C g c w' ∧ Kept [g] w w' ∧ GotI 0 L L1 := by
  have h0 := hI.time 0 hL0
  have ht : (L.getD 0 (0, 0, 0)).2.1 = 0 := by omega
  have h9 := hearFirst hI 0 hL0 hL (fun j => by have := mS_lt first j; omega) first hfi 9 (by decide) (by decide) [(0, 1)] (by decide) (fun i hi => by
    have hd : diffI first (mS first i) = -(i : Int) := by unfold diffI mS; omega
    rw [hd]
    unfold M.told
    by_cases h : i ≤ 0
    · obtain rfl : i = 0 := by omega
      rfl
    · rw [if_neg h, if_pos (by omega)]) C g c _ w h (sfOne 0 1 (by decide) b TT w hv)
  rw [ht] at h9
  exact h9
/-- One more is put: the first, which was got, goes if there is no room. -/
theorem sfEnd {first m : Nat} {L L1 : List Rec} (hI : SntI (mS first) 0 L) (hG : GotI 0 L L1) (hm : L.length = m) (hm1 : 1 ≤ m) (hm2 : m ≤ 200) (C g c : Nat) (W : World) (h : RecsAt L1 C g c W) :
    Calls Tryz.prog 20 #[.pointer (some ⟨C, 0, none⟩), .int .u64 (mS first m), .int .i64 5] W fun e w' => e = .returned (.bool true) ∧ ∃ F g2 c2, RecsAt F C g2 c2 w' ∧ F.length = min (m + 1) 200 ∧ M.outs F = (if m < 200 then m else 200) ∧ Kept [C, g] W w' ∧ (g = g2 ∨ W.heap.size ≤ g2) := by
  have hl1 := hG.len
  rcases L1 with _ | ⟨r, l⟩
  · simp at hl1; omega
  have hll : l.length + 1 = m := by rw [← hm, ← hl1]; rfl
  have hr : r.2.2 = 1 := by
    have := hG.get 0 (by omega)
    rw [if_pos (Nat.le_refl 0)] at this
    have e : r = ((L.getD 0 (0, 0, 0)).1, (L.getD 0 (0, 0, 0)).2.1, 1) := this
    exact congrArg (fun x : Rec => x.2.2) e
  have hout : ∀ j, j < l.length → (l.getD j (0, 0, 0)).2.2 = 0 ∧ (l.getD j (0, 0, 0)).1 = mS first (j + 1) := fun j hj => by
    have h1 := hG.get (j + 1) (by omega)
    rw [if_neg (by omega)] at h1
    have e : l.getD j (0, 0, 0) = L.getD (j + 1) (0, 0, 0) := h1
    rw [e]
    exact ⟨hI.out (j + 1) (by omega), hI.num (j + 1) (by omega)⟩
  have hoc : M.outs l = l.length := by
    unfold M.outs
    rw [List.countP_eq_length]
    intro x hx
    obtain ⟨j, hj, rfl⟩ := mem_getD l x hx
    show ((l.getD j (0, 0, 0)).2.2 == 0) = true
    rw [beq_iff_eq]
    exact (hout j hj).1
  have hlast : ((r :: l).getD (m - 1) (0, 0, 0)).1 = mS first (m - 1) := by
    rcases Nat.eq_zero_or_pos (m - 1) with h0 | h0
    · have h1 := hG.get 0 (by omega)
      rw [if_pos (Nat.le_refl 0)] at h1
      rw [h0, h1]
      exact hI.num 0 (by omega)
    · obtain ⟨k, hk⟩ : ∃ k, m - 1 = k + 1 := ⟨m - 2, by omega⟩
      rw [hk]
      exact (hout k (by omega)).2
  have hs := h.sent
  have hdl : diffI (mS first (m - 1)) (mS first m) < 0 := mS_diff first (m - 1) m (by omega) (by omega)
  by_cases hf : m < 200
  · rw [if_pos hf]
    refine (sentPut_next (r :: l) (by simp) (by simp; omega) (mS first (m - 1)) (mS first m) (by rw [List.length_cons, hll]; exact hlast) (mS_lt _ _) (mS_lt _ _) hdl 5 (by decide) (by decide) C _ W hs).mono ?_
    rintro e w' ⟨g2, c2, rfl, h2, h3, h4⟩
    refine ⟨rfl, _, g2, c2, h2.recs2 (by simp), by simp; omega, ?_, h3, ?_⟩
    · rw [M.outs_snoc]
      have : M.outs (r :: l) = M.outs l := by unfold M.outs; rw [List.countP_cons_of_neg (by simp [hr])]
      rw [this, hoc]
      simp; omega
    · rcases h4 with h4 | h4
      · exact .inl (Option.some.inj h4)
      · exact .inr h4
  · rw [if_neg hf]
    have hm3 : m = 200 := by omega
    refine (putFull l r (by omega) (by rw [hr]; decide) (by rw [hr]; decide) (by rw [hr]; decide) (mS first m) (mS_lt _ _) 5 (by decide) (by decide) C g c W hs ?_).mono ?_
    · refine sentMay_next (r :: l) (m - 1) (by simp; omega) (by omega) (mS first m) (mS first (m - 1)) hlast (fun W' => ?_) C _ W hs
      have h1 := seqLess_any (mS first (m - 1)) (mS first m) (by have := mS_lt first (m - 1); omega) (by have := mS_lt first m; omega) W'
      rw [decide_eq_true hdl] at h1
      exact h1
    · rintro e w' ⟨g2, c2, rfl, h2, h3, h4⟩
      refine ⟨rfl, _, g2, c2, h2.recs2 (by simp), by simp; omega, ?_, h3, h4⟩
      rw [M.outs_snoc, hoc]
      simp; omega
end Go.Proofs.YtkpginmdnlhfbaaGreatDoor

namespace Go.Proofs.YtkpginmdnlhfbaaGreatDoor
open Go.ChangeShapes Go.WideShapes Go.ChangeAt Go.RowKit
set_option linter.unusedVariables false
set_option linter.unusedSimpArgs false

theorem sfHas (n : Int) (h1 : -9223372036854775808 ≤ n) (h2 : n ≤ 9223372036854775807) (r : Int) (hr : r = if 200 ≤ n then 0 else 1) (w : World) : Calls Tryz.prog 34 #[.int .i64 n] w fun e w' => e = .returned (.int .i64 r) ∧ w = w' := by
  by_cases h : 200 ≤ n
  · rw [if_pos h] at hr
    subst hr
    go_enter Tryz.func34, Tryz.ntmps34
    go_wp2
    go_ret
    exact ⟨rfl, rfl⟩
  · rw [if_neg h] at hr
    subst hr
    go_enter Tryz.func34, Tryz.ntmps34
    go_wp2
    go_ret
    exact ⟨rfl, rfl⟩
set_option maxHeartbeats 8000000 in
set_option maxRecDepth 100000 in
theorem sentFull_walk (first : Nat) (hfi : first < 18446744073709551616) (nz : Int) (n1 : -9223372036854775808 ≤ nz) (n2 : nz ≤ 9223372036854775807) (w : World) (hT : TabW w) :
    Calls Tryz.prog 9 #[.int .u64 first, .int .i64 nz] w fun e w' => e = .returned (.bool true) ∧ Below w.heap.size w w' := by
  have HBG : Hid (Calls Tryz.prog 13 #[] w fun e w' => e = .returned (.bool true) ∧ Below w.heap.size w w') := Lib.hid (begun8_any w hT)
  clear hT
  obtain ⟨a, ha, a1, a2, J, hJ, hJ3⟩ := mod_at nz 20 (by decide)
  obtain ⟨N, hN⟩ : ∃ N : Nat, 190 + (J : Int) = (N : Int) := ⟨190 + J, by omega⟩
  have hN1 : 190 ≤ N := by omega
  have hN2 : N < 210 := by omega
  obtain ⟨B, hB⟩ : ∃ B, w.heap.size = B := ⟨_, rfl⟩
  have HBe := Lib.hid hB
  have HST : Hid (∀ i : Nat, i ≤ 300 → ∀ W, Calls Tryz.prog 16 #[.int .u64 first, .int .i64 i] W fun e w' => e = .returned (.int .u64 (mS first i : Int)) ∧ W = w') := Lib.hid (fun i hi W => by rw [← mS_step]; exact refStep_any first i hfi (by omega) (by omega) W)
  go_enter Tryz.func9, Tryz.ntmps9
  go_upto_region 6 with (first
    | (go_at_call 13; (with_reducible refine HBG.out.mono ?_); rintro e w0 ⟨rfl, hb0⟩)
    | (go_at_call 19; (with_reducible refine (sentNew_any _).mono ?_); rintro e w1 ⟨C, rfl, hg1, hc1, hb1⟩))
  have HI0 : Hid (SntW (mS first) 0 [] C B (.slice none 0 0) w w1) := Lib.hid (SntW.start _ C B w w1 hg1 (by rw [← hB]; exact bel_trans hb0 hb1) ⟨by rw [← hB]; exact Nat.le_trans hb0.size hc1, hB⟩)
  clear hb0 hg1 hc1 hb1 ha hJ hN hB
  go_wp2
  go_loopw [7] (fun iv wr => ∃ (i : Nat) (L : List Rec) (v : Value), iv = .int .i64 (i : Int) ∧ i ≤ N ∧ Hid (L.length = min i 200) ∧ Hid (SntW (mS first) 0 L C B v w wr)) (fun iv _ => N - (intOf iv).toNat)
  case atStart => exact ⟨0, [], _, rfl, Nat.zero_le _, Lib.hid rfl, HI0⟩
  case round =>
    clear HI0
    obtain ⟨i, L, v, rfl, hi, hL, hI⟩ := hrel
    by_cases hlt : i < N
    · have d1 : decide ((i : Int) < (N : Int)) = true := decide_eq_true (by omega)
      have HSI := Lib.hid (HST.out i (by omega))
      by_cases hr : i < 200
      · have d2 : decide ((i : Int) < 200) = true := decide_eq_true (by omega)
        have HP : Hid (Calls Tryz.prog 20 #[.pointer (some ⟨C, 0, none⟩), .int .u64 (mS first i), .int .i64 0] wr fun e w' => e = .returned (.bool true) ∧ ∃ L' v', L'.length = min (i + 1) 200 ∧ SntW (mS first) 0 L' C B v' w w') := Lib.hid (by
          have hLi : L.length = i := by rw [hL.out]; omega
          have h1 := hI.out.put (T2 := 0) (mS_lt first) (mS_next first) (by rw [hLi]; omega) (Int.le_refl _) (Int.le_refl _) (by decide)
          rw [hLi] at h1
          exact h1.mono fun e w' ⟨r1, v', r2, _, _⟩ => ⟨r1, _, v', by rw [List.length_append, hLi, List.length_singleton]; omega, r2⟩)
        go_wp2_with (first
          | (go_at_call 16; (with_reducible refine (HSI.out _).mono ?_); rintro e w2 ⟨rfl, rfl⟩)
          | (go_at_call 20; (with_reducible refine HP.out.mono ?_); rintro e w3 ⟨rfl, L3, v3, hL3, hI3⟩))
        refine ⟨⟨i + 1, L3, v3, by go_num, by omega, Lib.hid hL3, Lib.hid hI3⟩, ?_⟩
        simp [intOf]; omega
      · have d2 : decide ((i : Int) < 200) = false := decide_eq_false (by omega)
        have HP : Hid (Calls Tryz.prog 20 #[.pointer (some ⟨C, 0, none⟩), .int .u64 (mS first i), .int .i64 0] wr fun e w' => e = .returned (.bool false) ∧ SntW (mS first) 0 L C B v w w') := Lib.hid (sfPutNo hI.out (by rw [hL.out]; omega) i (by omega) (by omega))
        go_wp2_with (first
          | (go_at_call 16; (with_reducible refine (HSI.out _).mono ?_); rintro e w2 ⟨rfl, rfl⟩)
          | (go_at_call 20; (with_reducible refine HP.out.mono ?_); rintro e w3 ⟨rfl, hI3⟩))
        refine ⟨⟨i + 1, L, v, by go_num, by omega, Lib.hid (by rw [hL.out]; omega), Lib.hid hI3⟩, ?_⟩
        simp [intOf]; omega
    · have d1 : decide ((i : Int) < (N : Int)) = false := decide_eq_false (by omega)
      obtain rfl : i = N := by omega
      obtain ⟨m, hm⟩ : ∃ m, min i 200 = m := ⟨_, rfl⟩
      obtain ⟨q1, q2, q3, q4, q5, q6⟩ := mns i 200 m hm
      have q1' : (if (200 : Int) < (i : Int) then (200 : Int) else (i : Int)) = (m : Int) := q1
      have q2' : (if 200 < i then (200 : Int) else (i : Int)) = (m : Int) := q2
      have q3' : min (i : Int) 200 = (m : Int) := q3
      have hLm : L.length = m := by rw [hL.out, hm]
      obtain ⟨g, c, hr, hgB⟩ := sfRecs hI.out (by omega)
      have HIN := Lib.hid hI.out.inv
      have HBW := Lib.hid hI.out.below
      have HCB := Lib.hid (show B ≤ C ∧ B ≤ g from ⟨hI.out.size.1, hgB⟩)
      have hm1 : 190 ≤ m := by omega
      have hm2 : m ≤ 200 := by omega
      have HOU : Hid (∀ W, RecsAt L C g c W → Calls Tryz.prog 22 #[.pointer (some ⟨C, 0, none⟩)] W fun e w' => e = .returned (.int .i64 (m : Int)) ∧ Below W.heap.size W w') := Lib.hid (fun W hW => by
        have h1 := sentOut_any L (by omega) C g c W hW
        rw [HIN.out.outs, hLm] at h1
        exact h1)
      have HLE : Hid (∀ W, RecsAt L C g c W → Calls Tryz.prog 32 #[.pointer (some ⟨C, 0, none⟩)] W fun e w' => e = .returned (.int .i64 (m : Int)) ∧ W = w') := Lib.hid (fun W hW => by
        have h1 := sentLen_any L C g c W hW
        rw [hLm] at h1
        exact h1)
      have HLA : Hid (∀ W, RecsAt L C g c W → Calls Tryz.prog 33 #[.pointer (some ⟨C, 0, none⟩)] W fun e w' => e = .returned (.tuple #[.int .u64 (mS first (m - 1) : Nat), .bool true]) ∧ ∃ k, w' = W.drewN k) := Lib.hid (fun W hW => by
        have h1 := sentLast_some L (m - 1) (by omega) (by omega) C _ W hW.sent
        rw [HIN.out.num (m - 1) (by omega)] at h1
        exact h1)
      have HLM := Lib.hid hLm
      have hr0 := Lib.hid hr
      clear hr hgB hI HST hL hlt q1 q2 q3 q4 hm
      go_upto_region 14 with (first
        | (go_at_call 32; (first | (with_reducible refine (HLE.out _ hrB.out).mono ?_) | (with_reducible refine (HLE.out _ hr0.out).mono ?_)); rintro e w5 ⟨rfl, rfl⟩)
        | (go_at_call 22; (with_reducible refine (HOU.out _ hr0.out).mono ?_); rintro e wb ⟨rfl, hbb⟩; have hrB := Lib.hid (hr0.out.below hbb))
        | (go_at_call 33; (with_reducible refine (HLA.out _ hrB.out).mono ?_); rintro e wc ⟨rfl, kc, rfl⟩))
      have hB0 : B ≤ wr.heap.size := by have := HBW.out.size; have := HBe.out; omega
      have HBC : Hid (Below B w (wb.drewN kc)) := Lib.hid ((HBW.out.trans (hbb.mono hB0)).trans ((bel_drewN wb kc).mono (Nat.le_trans hB0 hbb.size)))
      have hrC := Lib.hid (hrB.out.below (bel_drewN wb kc))
      clear hbb hrB hr0 HOU HLE HLA HBW
      generalize wb.drewN kc = wz at *
      obtain ⟨A, hA⟩ : ∃ A, wz.heap.size = A := ⟨_, rfl⟩
      have kA : BlkIs #[.int .i64 0, .int .i64 1] 38 A (wz.alloc (.cells #[.int .i64 0, .int .i64 1] 38)) := by rw [← hA]; exact BlkIs.new _ _ _
      have HH1 := Lib.hid (sfHear hfi HIN.out (by rw [HLM.out]; omega) (by rw [HLM.out]; omega) C g c A _ _ (hrC.out.below (bel_alloc wz _)) kA)
      have HLT : Hid (g < A ∧ C < A ∧ B ≤ A) := Lib.hid ⟨by rw [← hA]; exact hrC.out.lt, by rw [← hA]; exact hrC.out.blk.lt, by rw [← hA]; have := HBC.out.size; have := HBe.out; omega⟩
      have HS3 : Hid (A + 1 = (wz.alloc (.cells #[.int .i64 0, .int .i64 1] 38)).heap.size) := Lib.hid (by rw [World.size_alloc, hA])
      have HB3 : Hid (Below B w (wz.alloc (.cells #[.int .i64 0, .int .i64 1] 38))) := Lib.hid (HBC.out.trans ((bel_alloc wz _).mono (by rw [hA]; exact HLT.out.2.2)))
      clear kA hrC
      go_upto_region 15 with (go_at_call 21; (with_reducible refine HH1.out.mono ?_); rintro e w3 ⟨pG, nG, pL, nL, pX, nX, L1, rfl, hr3, hk3, hG3⟩)
      have kB := BlkIs.new #[.slice pG 1 nG, .slice pL 0 nL, .slice pX 0 nX, .int .i64 0, .int .i64 9] 41 w3
      have hr4 := hr3.below (bel_alloc w3 (.cells #[.slice pG 1 nG, .slice pL 0 nL, .slice pX 0 nX, .int .i64 0, .int .i64 9] 41))
      have hs3 := hk3.size
      have HX : Hid (w3.heap.size ≠ C ∧ w3.heap.size ≠ g) := Lib.hid (by have := HLT.out; have := HS3.out; omega)
      have HB4 : Hid (Below B w (w3.alloc (.cells #[.slice pG 1 nG, .slice pL 0 nL, .slice pX 0 nX, .int .i64 0, .int .i64 9] 41))) := Lib.hid ((HB3.out.trans (hk3.below (by have := HLT.out; have := HS3.out; omega) (by intro x hx; have := HCB.out.2; simp at hx; omega))).trans ((bel_alloc w3 _).mono (by have := HLT.out; have := HS3.out; omega)))
      clear hr3 hk3 HH1 hs3 HB3 HS3
      generalize w3.alloc (.cells #[.slice pG 1 nG, .slice pL 0 nL, .slice pX 0 nX, .int .i64 0, .int .i64 9] 41) = w4 at *
      generalize w3.heap.size = X4 at *
      have HSE : Hid (∀ W, Calls Tryz.prog 16 #[.int .u64 (mS first (m - 1) : Nat), .int .i64 1] W fun e w' => e = .returned (.int .u64 (mS first m : Nat)) ∧ W = w') := Lib.hid (fun W => by
        have h1 := refStep_any (mS first (m - 1)) 1 (by have := mS_lt first (m - 1); omega) (by decide) (by decide) W
        rw [mS_one, show m - 1 + 1 = m by omega] at h1
        exact h1)
      have HEN := Lib.hid (sfEnd HIN.out hG3 HLM.out (by omega) hm2 C g c w4 hr4)
      have HKB := Lib.hid kB
      clear kB hr4 hG3
      go_upto_region 16 with (first
        | (go_at_call 16; (with_reducible refine (HSE.out _).mono ?_); rintro e w5 ⟨rfl, rfl⟩)
        | (go_at_call 20; (with_reducible refine HEN.out.mono ?_); rintro e w6 ⟨rfl, F, g2, c2, hrF, hFl, hFo, hkF, hg2⟩))
      have kC := HKB.out.kept hkF (by have := HX.out; simp; omega)
      have y0 : w6.cell? ⟨X4, 0, none⟩ = some (.slice pG 1 nG) := BlkIs.cell kC 0
      have y4 : w6.cell? ⟨X4, 4, none⟩ = some (.int .i64 9) := BlkIs.cell kC 4
      have HB6 : Hid (Below B w w6) := Lib.hid (HB4.out.trans (hkF.below (by have := HB4.out.size; have := HBe.out; omega) (by intro x hx; have := HCB.out; simp at hx; omega)))
      obtain ⟨f, hf⟩ : ∃ f : Nat, min (i + 1) 200 = f := ⟨_, rfl⟩
      obtain ⟨z1, z2, z3, z4, z5⟩ := mni ((i : Int) + 1) 200 (f : Int) (by omega)
      obtain ⟨o, ho⟩ : ∃ o, M.outs F = o := ⟨_, rfl⟩
      have hFf : F.length = f := by omega
      obtain ⟨hh, hhh⟩ : ∃ hh : Int, hh = if 200 ≤ (i : Int) then 0 else 1 := ⟨_, rfl⟩
      have hfo : (f : Int) - hh = (o : Int) := by
        rw [← ho, hFo, hhh]
        split <;> split <;> omega
      have hob : (o : Int) ≤ 200 := by rw [← ho, hFo]; split <;> omega
      have hwr : IntKind.i64.wrap ((f : Int) - hh) = (f : Int) - hh := by rw [IntKind.wrap_i64]; split at hhh <;> omega
      have HF := Lib.hid hrF
      have HLE2 : Hid (∀ W, RecsAt F C g2 c2 W → Calls Tryz.prog 32 #[.pointer (some ⟨C, 0, none⟩)] W fun e w' => e = .returned (.int .i64 (f : Int)) ∧ W = w') := Lib.hid (fun W hW => by
        have h1 := sentLen_any F C g2 c2 W hW
        rw [hFf] at h1
        exact h1)
      have HOU2 : Hid (∀ W, RecsAt F C g2 c2 W → Calls Tryz.prog 22 #[.pointer (some ⟨C, 0, none⟩)] W fun e w' => e = .returned (.int .i64 (o : Int)) ∧ Below W.heap.size W w') := Lib.hid (fun W hW => by
        have h1 := sentOut_any F (by omega) C g2 c2 W hW
        rw [ho] at h1
        exact h1)
      have HHA := Lib.hid (fun W => sfHas (i : Int) (by omega) (by omega) hh hhh W)
      clear hrF hFl hFo hkF hg2 kC HEN HSE HKB HX HIN hhh ho hFf
      go_wp2_with (first
        | (go_at_call 32; (first | (with_reducible refine (HLE2.out _ hrG.out).mono ?_) | (with_reducible refine (HLE2.out _ HF.out).mono ?_)); rintro e w7 ⟨rfl, rfl⟩)
        | (go_at_call 22; (with_reducible refine (HOU2.out _ HF.out).mono ?_); rintro e wo ⟨rfl, hbo⟩; have hrG := Lib.hid (HF.out.below hbo))
        | (go_at_call 34; (with_reducible refine (HHA.out _).mono ?_); rintro e w8 ⟨rfl, rfl⟩))
      go_ret
      have hbe := HBe.out
      subst hbe
      exact ⟨by simp, bel_trans HB6.out hbo⟩
end Go.Proofs.YtkpginmdnlhfbaaGreatDoor
