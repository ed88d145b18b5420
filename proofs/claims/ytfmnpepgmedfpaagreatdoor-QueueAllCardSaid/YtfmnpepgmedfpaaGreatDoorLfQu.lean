/-
  A row of texts of the law's own from which the first ones are cut: append behind it.
  Package queue: Take (the first text of a row deleted).
  Package queue: Bytes.
  A queue as a law uses it, beside the law's own row of texts: each call from what is held to what is held.
  The law QueueAll, walked (its opening handed in).
  A row of a queue's operations that came in as an argument, opened.
-/
import Derived.Test.YtfmnpepgmedfpaaGreatDoorQuW
import Derived.Test.YtfmnpepgmedfpaaGreatDoorShelf
import Derived.Test.YtfmnpepgmedfpaaGreatDoorNgZ
import Derived.OwnWalk
import Derived.Deep.CutBlock
import Derived.Deep.DeepCutAuto
import Derived.Test.YtfmnpepgmedfpaaGreatDoorOpenIn
namespace Go.Proofs.YtfmnpepgmedfpaaGreatDoor
open Go.ChangeShapes Go.WideShapes Go.ChangeAt Go.RowKit
set_option linter.unusedVariables false
set_option linter.unusedSimpArgs false

theorem run_append_roomO {P : Program} (w : World) (t ty e : TypeId) (i : TypeInfo) (ht : P.underlying t = some (.slice e)) (hi : P.info? e = some i)
    (g o sLen sCap : Nat) (cur : Array Value) (hg : w.heap[g]? = some (.cells cur e (0, 0)))
    (a : Addr) (m c : Nat) (news : List Value) (hl : news.length = m * i.size) (hnews : ∀ j u, news[j]? = some u → w.cell? (a.add j) = some u) (h1 : ∀ u ∈ news, u.oneCell' = true)
    (hroom : sLen + m ≤ sCap) (hfit : o + sLen * i.size + news.length ≤ cur.size) :
    (Builtin.append_ #[t, t] ty #[.slice (some ⟨g, o, none⟩) sLen sCap, .slice (some a) m c]).run P w =
      .ok (.slice (some ⟨g, o, none⟩) (sLen + m) sCap) (w.setRow g (cur.toList.take (o + sLen * i.size) ++ news ++ cur.toList.drop (o + sLen * i.size + news.length)).toArray) := by
  have hf := run_firstCells_some (P := P) w i.size m a m c news hl hnews
  have hst := run_storeCells_at P g (o + sLen * i.size) e news 0 cur w hg (by simpa using hfit) h1
  simp only [Nat.add_zero] at hst
  have hadd : (⟨g, o, none⟩ : Addr).add (sLen * i.size) = ⟨g, o + sLen * i.size, none⟩ := by unfold Addr.add; split <;> simp_all
  simp [Builtin.append_, run_underlying ht, sizeOf, typeInfo, hi, Builtin.lenOf, hroom, hf, hadd, hst]
/-- A row of texts, from some place of its block on to the block's end. -/
def TxOff (v : Value) (L : List (List UInt8)) (w : World) : Prop := (v = .slice none 0 0 ∧ L = []) ∨ ∃ g o cap cur, v = .slice (some ⟨g, o, none⟩) L.length cap ∧ BlkIs cur 9 g w ∧ o + cap ≤ cur.size ∧ L.length ≤ cap ∧ cap ≤ 9223372036854775807 ∧ ∀ i, i < L.length → cur[o + i]? = some (sV (L.getD i []))
theorem TxOff.nil (w : World) : TxOff (.slice none 0 0) [] w := .inl ⟨rfl, rfl⟩
theorem TxOff.kept {v : Value} {L : List (List UInt8)} {S : List Nat} {w w' : World} (h : TxOff v L w) (k : Kept S w w') (hn : ∀ g, v.ownBlock = some g → g ∉ S) : TxOff v L w' := by
  rcases h with h | ⟨g, o, cap, cur, rfl, h1, h2⟩
  · exact .inl h
  · exact .inr ⟨g, o, cap, cur, rfl, h1.kept k (hn g rfl), h2⟩
theorem TxOff.lt {v : Value} {L : List (List UInt8)} {w : World} (h : TxOff v L w) : ∀ g, v.ownBlock = some g → g < w.heap.size := by
  intro q hq
  rcases h with ⟨rfl, _⟩ | ⟨g, o, cap, cur, rfl, h1, h2⟩
  · cases hq
  · have e : g = q := by simpa [Value.ownBlock] using hq
    rw [← e]
    exact h1.lt
theorem TxOff.len {v : Value} {L : List (List UInt8)} {w : World} (h : TxOff v L w) : ∃ p cap, v = .slice p L.length cap := by
  rcases h with ⟨rfl, rfl⟩ | ⟨g, o, cap, cur, rfl, h1, h2⟩
  · exact ⟨none, 0, rfl⟩
  · exact ⟨_, cap, rfl⟩
theorem TxOff.cons {v : Value} {x : List UInt8} {L : List (List UInt8)} {w : World} (h : TxOff v (x :: L) w) : ∃ g o cap, v = .slice (some ⟨g, o, none⟩) (L.length + 1) cap ∧ L.length + 1 ≤ cap ∧ cap ≤ 9223372036854775807 ∧ g < w.heap.size ∧ w.cell? ⟨g, o, none⟩ = some (.string (str x)) ∧ TxOff (.slice (some ⟨g, if cap = 1 then o else o + 1, none⟩) L.length (cap - 1)) L w := by
  rcases h with ⟨_, e⟩ | ⟨g, o, cap, cur, rfl, h1, h2, h3, h4, h5⟩
  · cases e
  · have hn : (x :: L).length = L.length + 1 := rfl
    rw [hn] at h3 h5
    refine ⟨g, o, cap, rfl, h3, h4, h1.lt, ?_, .inr ⟨g, if cap = 1 then o else o + 1, cap - 1, cur, rfl, h1, by split <;> omega, by omega, by omega, fun i hi => ?_⟩⟩
    · rw [BlkIs.cell h1 o]
      exact h5 0 (by omega)
    · have := h5 (i + 1) (by omega)
      rw [if_neg (by omega), show o + 1 + i = o + (i + 1) by omega]
      exact this
theorem TxRow.off {v : Value} {L : List (List UInt8)} {w : World} (h : TxRow v L w) : TxOff v L w := by
  rcases h.shape with ⟨rfl, rfl⟩ | ⟨g, cap, rfl, h1, h2, h3, ⟨cur, hb, hcs, hct⟩, h5⟩
  · exact .inl ⟨rfl, rfl⟩
  · exact .inr ⟨g, 0, cap, cur, rfl, hb, by omega, h1, h2, fun i hi => by
      rw [Nat.zero_add, ← BlkIs.cell hb i]
      exact h5 i hi⟩
/-- append of one text, literal, behind such a row. -/
theorem wp_offA {ops : Array Oper} {rest : List Oper} {o : Oper} {a : Act} {Q : Exit → Act → World → Prop} (hgd : o.guard = none) (s x : Operand)
    (ho : o.op = .call { callee := .builtin .append, args := #[s, x], argTypes := #[70, 70] })
    (v : Value) (L : List (List UInt8)) (hs : a.eval s = v) (w0 w1 : World) (p : List UInt8) (hw : w1 = w0.alloc (.cells #[.string (str p)] 9)) (hb : TxOff v L w0) (H : Nat) (hH : w0.heap.size = H)
    (hx : a.eval x = .slice (some ⟨H, 0, none⟩) 1 1) (hlen : L.length ≤ 1073741824)
    (h : ∀ v' w', TxOff v' (L ++ [p]) w' → Kept (ownB v) w0 w' → (v'.ownBlock = v.ownBlock ∨ v'.ownBlock = some (H + 1)) → wpList Tryz.prog ops Q rest (a.put o.dst v') w') : wpList Tryz.prog ops Q (o :: rest) a w1 := by
  obtain ⟨i0, hi, hz0, hz1, hz2⟩ := info_parts infoStrQ
  subst hH hw
  have hk0 : Kept [] w0 (w0.alloc (.cells #[.string (str p)] 9)) := (Kept.refl [] w0).alloc _
  have hb' : TxOff v L (w0.alloc (.cells #[.string (str p)] 9)) := hb.kept hk0 (fun _ _ h => by cases h)
  have hnw : ∀ j u, [Value.string (str p)][j]? = some u → (w0.alloc (.cells #[.string (str p)] 9)).cell? ((⟨w0.heap.size, 0, none⟩ : Addr).add j) = some u := cell_one_new w0 (.string (str p)) 9
  have hone : ∀ u ∈ [Value.string (str p)], u.oneCell' = true := by intro u hu; simp at hu; rw [hu]; rfl
  have key : ∃ v' w', (Builtin.append_ #[70, 70] o.type #[v, .slice (some ⟨w0.heap.size, 0, none⟩) 1 1]).run Tryz.prog (w0.alloc (.cells #[.string (str p)] 9)) = .ok v' w' ∧ TxOff v' (L ++ [p]) w' ∧ Kept (ownB v) w0 w' ∧ (v'.ownBlock = v.ownBlock ∨ v'.ownBlock = some (w0.heap.size + 1)) := by
    have hsz : (w0.alloc (.cells #[.string (str p)] 9)).heap.size = w0.heap.size + 1 := by simp
    rcases hb' with ⟨rfl, rfl⟩ | ⟨g, oo, cap, cur, rfl, h1, h2, h3, h4, h5⟩
    · obtain ⟨v', w', hr, ho', hg, _, hat⟩ := run_append_own_at (P := Tryz.prog) (w0.alloc (.cells #[.string (str p)] 9)) 0 70 o.type 9 i0 (.string ⟨#[]⟩) 1 16 Tryz.underlying70 hi hz0 hz1 hz2 rfl (by decide) (.slice none 0 0) 0 [] (World.ownsRow_nil _ _ _ _) ⟨w0.heap.size, 0, none⟩ 1 1 [.string (str p)] rfl hnw hone (by decide) (by decide) (Nat.zero_le _)
      have ht : TxRow v' [p] w' := ho'
      refine ⟨v', w', hr, ht.off, (hk0.more (fun x hx => by cases hx)).grown hg (fun k hk => by cases hk), ?_⟩
      rcases hat with h | h
      · exact .inl h
      · exact .inr (by rw [h, hsz])
    · by_cases hroom : L.length + 1 ≤ cap
      · have hr := run_append_roomO (P := Tryz.prog) (w0.alloc (.cells #[.string (str p)] 9)) 70 o.type 9 i0 Tryz.underlying70 hi g oo L.length cap cur h1 ⟨w0.heap.size, 0, none⟩ 1 1 [.string (str p)] (by rw [hz1]; rfl) hnw hone hroom (by rw [hz1]; simp; omega)
        rw [hz1, Nat.mul_one] at hr
        refine ⟨_, _, hr, .inr ⟨g, oo, cap, _, by simp, setRow_heap _ g cur _ _ _ h1, ?_, by simp; omega, h4, fun i hi => ?_⟩, ?_, .inl rfl⟩
        · simp
          omega
        · have hle : oo + L.length ≤ cur.size := by omega
          have hcl : cur.toList.length = cur.size := Array.length_toList
          have hlt : (cur.toList.take (oo + L.length)).length = oo + L.length := by rw [List.length_take, hcl]; omega
          rw [List.getElem?_toArray]
          by_cases hil : i < L.length
          · have := h5 i hil
            rw [List.append_assoc, List.getElem?_append_left (by rw [hlt]; omega), List.getElem?_take_of_lt (by omega), Array.getElem?_toList, this, List.getD_eq_getElem?_getD, List.getD_eq_getElem?_getD, List.getElem?_append_left hil]
          · have hie : i = L.length := by rw [List.length_append] at hi; simp at hi; omega
            rw [hie, List.append_assoc, List.getElem?_append_right (by omega), hlt, Nat.sub_self, List.getD_eq_getElem?_getD, List.getElem?_append_right (Nat.le_refl _), Nat.sub_self]
            rfl
        · have kk : Kept (ownB (.slice (some ⟨g, oo, none⟩) L.length cap)) w0 (w0.alloc (.cells #[.string (str p)] 9)) := hk0.more (fun x hx => by cases hx)
          exact kk.trans' ⟨rfl, rfl, rfl, by simp, fun q _ hq => setRow_other _ g q _ (fun e => hq (mem_ownB.2 (by rw [e]; rfl)))⟩
      · have hr := run_append_grow (P := Tryz.prog) (w0.alloc (.cells #[.string (str p)] 9)) 70 o.type 9 i0 (.string ⟨#[]⟩) Tryz.underlying70 hi hz0 ⟨g, oo, none⟩ L.length cap (L.map sV) (by rw [hz1]; simp) (fun j u hu => by
            have hj : j < L.length := by have := (List.getElem?_eq_some_iff.1 hu).1; simpa using this
            have hadd : (⟨g, oo, none⟩ : Addr).add j = ⟨g, oo + j, none⟩ := by unfold Addr.add; split <;> simp_all
            rw [hadd, BlkIs.cell h1 (oo + j), h5 j hj, ← hu, List.getElem?_map, List.getElem?_eq_getElem hj, List.getD_eq_getElem?_getD, List.getElem?_eq_getElem hj]
            rfl) ⟨w0.heap.size, 0, none⟩ 1 1 [.string (str p)] (by rw [hz1]; rfl) hnw (by omega) (by omega) (growslice_fits (by omega) (by rw [hz2]; omega))
        refine ⟨_, _, hr, ?_, ?_, .inr (by rw [hsz]; rfl)⟩
        · have hge := grownCap_ge (w0.alloc (.cells #[.string (str p)] 9)) (L.length + 1) cap 9
          have hle := grownCap_le_maxLen (w0.alloc (.cells #[.string (str p)] 9)) (L.length + 1) cap 9 (by unfold maxLen; omega)
          refine .inr ⟨_, 0, grownCap (w0.alloc (.cells #[.string (str p)] 9)) (L.length + 1) cap 9, _, by simp, heap_alloc_new _ _, ?_, by simpa using hge, by unfold maxLen at hle; omega, fun i hi => ?_⟩
          · simp [size_zeroCells, Value.cells]
            omega
          · rw [Nat.zero_add, ← Array.getElem?_toList]
            simp only [Array.toList_append, List.append_assoc]
            by_cases hil : i < L.length
            · rw [List.getElem?_append_left (by simpa using hil), List.getElem?_map, List.getElem?_eq_getElem hil, List.getD_eq_getElem?_getD, List.getElem?_append_left hil, List.getElem?_eq_getElem hil]
              rfl
            · have hie : i = L.length := by rw [List.length_append] at hi; simp at hi; omega
              rw [hie, List.getElem?_append_right (by simp), List.length_map, Nat.sub_self, List.getD_eq_getElem?_getD, List.getElem?_append_right (Nat.le_refl _), Nat.sub_self]
              rfl
        · have kk : Kept (ownB (.slice (some ⟨g, oo, none⟩) L.length cap)) w0 (w0.alloc (.cells #[.string (str p)] 9)) := hk0.more (fun x hx => by cases hx)
          exact (kk.drew).alloc _
  obtain ⟨v', w', hr, h1, h2, h3⟩ := key
  refine wpList_plain hgd fun K hK => ?_
  unfold Oper.wp execOp
  simp only [ho, resolve, invoke, builtin, Sem.run_bind, Sem.run_pure, Result.andThen_ok, List.map_toArray, List.map_cons, List.map_nil, hs, hx, hr]
  exact hK _ _ (h v' w' h1 h2 h3)
end Go.Proofs.YtfmnpepgmedfpaaGreatDoor

namespace Go.Proofs.YtfmnpepgmedfpaaGreatDoor
open Go.ChangeShapes Go.WideShapes Go.ChangeAt Go.RowKit
set_option linter.unusedVariables false
set_option linter.unusedSimpArgs false

theorem quDelete (x : List UInt8) (L : List (List UInt8)) (g cap : Nat) (w : World) (h : TxRow (.slice (some ⟨g, 0, none⟩) (x :: L).length cap) (x :: L) w) :
    Calls Tryz.prog 79 #[.slice (some ⟨g, 0, none⟩) (x :: L).length cap, .int .i64 0, .int .i64 1] w fun e w' => e = .returned (.slice (some ⟨g, 0, none⟩) L.length cap) ∧ TxRow (.slice (some ⟨g, 0, none⟩) L.length cap) L w' ∧ Kept [g] w w' := by
  rcases h.shape with ⟨e, _⟩ | ⟨g2, c2, e, h1, h2, h3, ⟨cur, hb, hcs, hct⟩, h5⟩
  · cases e
  · injection e with e1 e2 e3
    injection e1 with e1
    injection e1 with e1
    subst e1 e3
    have hn : (x :: L).length = L.length + 1 := rfl
    have hd := Tryz.slices_Delete_string_cells g 0 (x :: L).length cap 0 1 (fun i => str ((x :: L).getD i [])) w h1 h2 (by decide) (by rw [hn]; omega) (fun i hi => by rw [Nat.zero_add]; exact h5 i hi) (fun j _ => BlkIs.free hb _)
    refine hd.mono ?_
    rintro e w' ⟨rfl, q, rfl⟩
    have hs : Lib.strsOf (fun i => str ((x :: L).getD i [])) (x :: L).length = x :: L := by
      apply List.ext_getElem?
      intro i
      unfold Lib.strsOf
      rw [List.getElem?_map]
      by_cases hi : i < (x :: L).length
      · rw [List.getElem?_range hi, List.getElem?_eq_getElem hi]
        show some (((x :: L).getD i []).toArray.toList) = _
        rw [List.getD_eq_getElem?_getD, List.getElem?_eq_getElem hi]
        simp
      · rw [List.getElem?_eq_none (by simpa using hi), List.getElem?_eq_none (by omega)]
        rfl
    rw [hs]
    have hv : (((x :: L).take 0 ++ (x :: L).drop 1 ++ List.replicate (1 - 0) []).map encStr) = L.map sV ++ [sV []] := by
      simp [encStr, sV, str]
    rw [hv]
    obtain ⟨T, hT⟩ : ∃ T, cur.toList.drop (L.length + 1) = T := ⟨_, rfl⟩
    have hcur : cur = ([] ++ ((x :: L).map sV ++ T)).toArray := by
      rw [← hT, List.nil_append, ← hct, hn, List.take_append_drop]
    have hb2 : BlkIs ([] ++ ((L.map sV ++ [sV []]) ++ T)).toArray 9 g ((w.drewN q).setCells g 0 (L.map sV ++ [sV []])) := BlkIs.segQ (L.map sV ++ [sV []]) ((x :: L).map sV) [] T (w.drewN q) (by simp) (by rw [← hcur]; exact hb)
    refine ⟨rfl, ⟨by simp, .inr ⟨g, cap, _, rfl, Nat.zero_le _, hb2, by rw [hn] at h1; omega, by unfold maxLen; omega, ?_, ?_⟩⟩, kept_setCellsQ [g] g (.inl (by simp)) _ 0 _ ((Kept.refl [g] w).drewN q)⟩
    · rw [Nat.mul_one, ← hcs, hcur]
      simp
      omega
    · rw [Nat.mul_one]
      simp
set_option maxHeartbeats 2000000 in
theorem quTake_none (M : Nat) (v : Value) (C : Nat) (w : World) (h : QuAt M [] v C w) :
    Calls Tryz.prog 43 #[.pointer (some ⟨C, 0, none⟩)] w fun e w' => e = .returned (.tuple #[.string ⟨#[]⟩, .bool false]) ∧ w = w' := by
  have HF := Lib.hid (quFirst_any M [] v C w h)
  have HF2 : Hid (Calls Tryz.prog 42 #[.pointer (some ⟨C, 0, none⟩)] w fun e w' => e = .returned (.tuple #[.string ⟨#[]⟩, .bool false]) ∧ w = w') := Lib.hid HF.out
  clear h HF
  go_enter Tryz.func43, Tryz.ntmps43
  go_wp2_with (go_at_call 42; (with_reducible refine HF2.out.mono ?_); rintro e w1 ⟨rfl, rfl⟩)
  go_ret2
  exact ⟨rfl, rfl⟩
set_option maxHeartbeats 2000000 in
theorem quTake_some (M : Nat) (x : List UInt8) (L : List (List UInt8)) (v : Value) (C : Nat) (w : World) (h : QuAt M (x :: L) v C w) :
    Calls Tryz.prog 43 #[.pointer (some ⟨C, 0, none⟩)] w fun e w' => e = .returned (.tuple #[.string (str x), .bool true]) ∧ ∃ v', QuAt M L v' C w' ∧ Kept (C :: ownB v) w w' ∧ v'.ownBlock = v.ownBlock := by
  have HF := Lib.hid (quFirst_any M (x :: L) v C w h)
  have HF2 : Hid (Calls Tryz.prog 42 #[.pointer (some ⟨C, 0, none⟩)] w fun e w' => e = .returned (.tuple #[.string (str x), .bool true]) ∧ w = w') := Lib.hid (by
    have h9 := HF.out
    rw [decide_eq_true (show 0 < (x :: L).length by simp)] at h9
    exact h9)
  rcases h.row.shape with ⟨e, _⟩ | ⟨g, cap, rfl, _⟩
  · cases e
  · have HD := Lib.hid (quDelete x L g cap w h.row)
    have c1 : w.cell? ⟨C, 1, none⟩ = some (.slice (some ⟨g, 0, none⟩) (x :: L).length cap) := BlkIs.cell h.blk 1
    have hgC : g ≠ C := fun e => h.ne (by rw [e]; rfl)
    have HGC := Lib.hid hgC
    have HB := Lib.hid h.blk
    generalize str x = X at *
    have hn : (x :: L).length = L.length + 1 := rfl
    rw [hn] at HD c1
    have HN : Hid (∀ w1, Kept [g] w w1 → w1.cell? ⟨C, 1, none⟩ = some (.slice (some ⟨g, 0, none⟩) (L.length + 1) cap) ∧ w1.frozen? ⟨C, 1, none⟩ = false) := Lib.hid (fun w1 k => by
      have hb1 := BlkIs.kept HB.out k (by simpa using fun e => HGC.out e.symm)
      exact ⟨BlkIs.cell hb1 1, BlkIs.free hb1 1⟩)
    obtain ⟨N, hN⟩ : ∃ N, L.length = N := ⟨_, rfl⟩
    rw [hN] at HD c1 HN
    have HLN := Lib.hid hN
    clear h HF hgC hn hN
    go_enter Tryz.func43, Tryz.ntmps43
    go_wp2_with (first
      | (go_at_call 42; (with_reducible refine HF2.out.mono ?_); rintro e w1 ⟨rfl, rfl⟩)
      | (go_at_call 79; (with_reducible refine HD.out.mono ?_); rintro e w2 ⟨rfl, h2, k2⟩; have H2 := Lib.hid h2; have K2 := Lib.hid k2; have a2 := (HN.out w2 k2).1; have f2 := (HN.out w2 k2).2; clear h2 k2))
    go_ret2
    have hb2 := BlkIs.kept HB.out K2.out (by simpa using fun e => HGC.out e.symm)
    have h2 := H2.out
    refine ⟨rfl, .slice (some ⟨g, 0, none⟩) N cap, ⟨BlkIs.set hb2 1 _, h2.kept ((Kept.refl [C] w2).setCell (.inl (by simp)) _) (fun q hq hm => ?_)⟩, (K2.out.more (fun y hy => ?_)).setCell (.inl (by simp)) _, rfl⟩
    · have e : g = q := by simpa [Value.ownBlock] using hq
      rw [List.mem_singleton.1 hm] at e
      exact HGC.out e
    · rw [List.mem_singleton.1 hy]
      exact List.mem_cons_of_mem _ (mem_ownB.2 rfl)
end Go.Proofs.YtfmnpepgmedfpaaGreatDoor

namespace Go.Proofs.YtfmnpepgmedfpaaGreatDoor
open Go.ChangeShapes Go.WideShapes Go.ChangeAt Go.RowKit
set_option linter.unusedVariables false
set_option linter.unusedSimpArgs false

theorem quSum_take (L : List (List UInt8)) (k : Nat) (hk : k < L.length) : quSum (L.take (k + 1)) = quSum (L.take k) + (L.getD k []).length := by
  unfold quSum
  rw [List.take_succ_eq_append_getElem hk, List.map_append, List.sum_append, List.getD_eq_getElem?_getD, List.getElem?_eq_getElem hk]
  simp
theorem quSum_le (L : List (List UInt8)) (h : ∀ l ∈ L, l.length ≤ 1400) : quSum L ≤ L.length * 1400 := by
  induction L with
  | nil => simp [quSum]
  | cons a L ih =>
    have h1 := h a (by simp)
    have h2 := ih (fun l hl => h l (by simp [hl]))
    unfold quSum at h2 ⊢
    simp
    omega
set_option maxHeartbeats 2000000 in
theorem quBytes_any (M : Nat) (L : List (List UInt8)) (hL : L.length ≤ 50) (h14 : ∀ l ∈ L, l.length ≤ 1400) (v : Value) (C : Nat) (w : World) (h : QuAt M L v C w) :
    Calls Tryz.prog 45 #[.pointer (some ⟨C, 0, none⟩)] w fun e w' => e = .returned (.int .i64 (quSum L : Int)) ∧ w = w' := by
  have c1 : w.cell? ⟨C, 1, none⟩ = some v := BlkIs.cell h.blk 1
  rcases h.row.shape with ⟨rfl, rfl⟩ | ⟨g, cap, rfl, h1, h2, h3, _, h5⟩
  · clear h
    go_enter Tryz.func45, Tryz.ntmps45
    go_wp2
    go_loopw [3, 13] (fun s i wr => s = .int .i64 0 ∧ i = .int .i64 0 ∧ w = wr) (fun _ _ _ => 0)
    case atStart => exact ⟨rfl, rfl, rfl⟩
    case round =>
      obtain ⟨rfl, rfl, rfl⟩ := hrel
      go_wp2
      go_ret
      exact ⟨rfl, rfl⟩
  · have H5 := Lib.hid h5
    have HST := Lib.hid (quSum_take L)
    have HBD : Hid (∀ k, quSum (L.take k) ≤ 70000) := Lib.hid (fun k => by
      have h9 := quSum_le (L.take k) (fun l hl => h14 l (List.mem_of_mem_take hl))
      have h8 : (L.take k).length ≤ 50 := by rw [List.length_take]; omega
      omega)
    have HAL : Hid (L.take L.length = L) := Lib.hid (List.take_length)
    have H14 : Hid (∀ k, (L.getD k []).length ≤ 1400) := Lib.hid (fun k => by
      rw [List.getD_eq_getElem?_getD]
      cases hg : L[k]? with
      | none => simp
      | some l => exact h14 l (List.mem_of_getElem? hg))
    obtain ⟨N, hN⟩ : ∃ N, L.length = N := ⟨_, rfl⟩
    rw [hN] at c1 h1 hL HAL H5 HST
    clear h h5 hN h14
    go_enter Tryz.func45, Tryz.ntmps45
    go_wp2
    go_loopw [3, 13] (fun s i wr => ∃ k : Nat, i = .int .i64 (k : Int) ∧ s = .int .i64 (quSum (L.take k) : Int) ∧ k ≤ N ∧ w = wr) (fun _ i _ => N - (intOf i).toNat)
    case atStart => exact ⟨0, rfl, rfl, Nat.zero_le _, rfl⟩
    case round =>
      obtain ⟨k, rfl, rfl, hk, rfl⟩ := hrel
      by_cases hkn : k < N
      · have d9 : decide ((k : Int) < (N : Int)) = true := decide_eq_true (by omega)
        have ck : w.cell? ⟨g, k, none⟩ = some (.string (str (L.getD k []))) := H5.out k hkn
        have hs : quSum (L.take (k + 1)) = quSum (L.take k) + (str (L.getD k [])).size := HST.out k hkn
        have hx : (str (L.getD k [])).size ≤ 1400 := H14.out k
        have hb := HBD.out k
        have HS := Lib.hid hs
        generalize str (L.getD k []) = x at *
        obtain ⟨s, hs2⟩ : ∃ s, quSum (L.take k) = s := ⟨_, rfl⟩
        rw [hs2] at hb HS ⊢
        have q1 : IntKind.i64.wrap ((s : Int) + (x.size : Int)) = (s : Int) + (x.size : Int) := by rw [IntKind.wrap_i64]; omega
        have q2 : wrap64 ((s : Int) + (x.size : Int)) = (s : Int) + (x.size : Int) := by unfold wrap64; omega
        clear hs hs2
        go_wp2
        refine ⟨⟨k + 1, by go_num, by rw [HS.out]; go_num, by omega, by first | rfl | trivial⟩, ?_⟩
        simp [intOf]; omega
      · obtain rfl : k = N := by omega
        have d9 : decide ((k : Int) < (k : Int)) = false := decide_eq_false (by omega)
        rw [HAL.out]
        go_wp2
        go_ret
        exact ⟨rfl, by first | rfl | trivial⟩
end Go.Proofs.YtfmnpepgmedfpaaGreatDoor

namespace Go.Proofs.YtfmnpepgmedfpaaGreatDoor
open Go.ChangeShapes Go.WideShapes Go.ChangeAt Go.RowKit
set_option linter.unusedVariables false
set_option linter.unusedSimpArgs false

/-- The queue at C holds L; the law's own row u holds L2; both made since w0. -/
structure QuL (M : Nat) (L L2 : List (List UInt8)) (u : Value) (C B : Nat) (w0 W : World) : Prop where
  held : ∃ v, QuAt M L v C W ∧ (∀ g, v.ownBlock = some g → B ≤ g) ∧ (∀ g, v.ownBlock = some g → u.ownBlock ≠ some g)
  own : TxOff u L2 W
  ge : ∀ g, u.ownBlock = some g → B ≤ g ∧ g ≠ C
  bel : Below B w0 W
  base : B ≤ C ∧ B ≤ w0.heap.size
theorem QuL.size {M : Nat} {L L2 : List (List UInt8)} {u : Value} {C B : Nat} {w0 W : World} (h : QuL M L L2 u C B w0 W) : B ≤ W.heap.size ∧ C < W.heap.size := by
  obtain ⟨v, h1, _⟩ := h.held
  have := h.bel.size
  have := h.base
  exact ⟨by omega, h1.blk.lt⟩
theorem QuL.below {M : Nat} {L L2 : List (List UInt8)} {u : Value} {C B : Nat} {w0 W W' : World} (h : QuL M L L2 u C B w0 W) (hb : Below W.heap.size W W') : QuL M L L2 u C B w0 W' := by
  have k := Kept.of_below [] hb
  obtain ⟨v, h1, h2, h3⟩ := h.held
  exact ⟨⟨v, h1.kept k (by simp) (fun _ _ h => by cases h), h2, h3⟩, h.own.kept k (fun _ _ h => by cases h), h.ge, h.bel.trans (hb.mono h.size.1), h.base⟩
theorem QuL.new (M : Nat) (h1 : 1 ≤ M) (h2 : M ≤ 50) (B : Nat) (w0 W : World) (hb : Below B w0 W) (hB : B ≤ w0.heap.size) :
    Calls Tryz.prog 40 #[.int .i64 (M : Int)] W fun e w' => ∃ C, e = .returned (.pointer (some ⟨C, 0, none⟩)) ∧ QuL M [] [] (.slice none 0 0) C B w0 w' := by
  refine (quNew_yes M h1 h2 W).mono ?_
  rintro e w' ⟨rfl, g1, g2⟩
  have := hb.size
  exact ⟨_, rfl, ⟨_, g1, (fun g hg => by cases hg), (fun g hg => by cases hg)⟩, TxOff.nil _, (fun g hg => by cases hg), hb.trans (g2.mono (by omega)), by omega, hB⟩
/-- The law's own append. -/
theorem QuL.app {M : Nat} {L L2 L3 : List (List UInt8)} {u u2 : Value} {C B : Nat} {w0 W W' : World} (h : QuL M L L2 u C B w0 W) (h1 : TxOff u2 L3 W') (k : Kept (ownB u) W W') (hu : u2.ownBlock = u.ownBlock ∨ u2.ownBlock = some (W.heap.size + 1)) : QuL M L L3 u2 C B w0 W' := by
  obtain ⟨v, g1, g2, g3⟩ := h.held
  have hs := h.size
  refine ⟨⟨v, g1.kept k (fun hm => (h.ge C (mem_ownB.1 hm)).2 rfl) (fun g hg hm => g3 g hg (mem_ownB.1 hm)), g2, fun g hg e => ?_⟩, h1, fun g hg => ?_, h.bel.trans (k.below hs.1 (fun x hx => (h.ge x (mem_ownB.1 hx)).1)), h.base⟩
  · rcases hu with e2 | e2
    · rw [e2] at e
      exact g3 g hg e
    · rw [e2] at e
      injection e with e
      have : g < W.heap.size := g1.row.off.lt g hg
      omega
  · rcases hu with e2 | e2
    · rw [e2] at hg
      exact h.ge g hg
    · rw [e2] at hg
      injection hg with hg
      omega
theorem QuL.put_no {M : Nat} {L L2 : List (List UInt8)} {u : Value} {C B : Nat} {w0 W : World} (h : QuL M L L2 u C B w0 W) (d : List UInt8) (hd : d.length ≤ 9223372036854775807) (hp : quPut M L d ≠ 0) :
    Calls Tryz.prog 41 #[.pointer (some ⟨C, 0, none⟩), .string (str d)] W fun e w' => e = .returned (.int .i64 (quPut M L d)) ∧ QuL M L L2 u C B w0 w' := by
  obtain ⟨v, g1, g2, g3⟩ := h.held
  refine (quPut_no M L d hd hp v C W g1).mono ?_
  rintro e w' ⟨rfl, n, rfl⟩
  exact ⟨rfl, h.below (bel_drewN W n)⟩
theorem QuL.put_yes {M : Nat} (hM : M ≤ 50) {L L2 : List (List UInt8)} {u : Value} {C B : Nat} {w0 W : World} (h : QuL M L L2 u C B w0 W) (d : List UInt8) (hd : d.length ≤ 9223372036854775807) (hp : quPut M L d = 0) :
    Calls Tryz.prog 41 #[.pointer (some ⟨C, 0, none⟩), .string (str d)] W fun e w' => e = .returned (.int .i64 0) ∧ QuL M (L ++ [d]) L2 u C B w0 w' := by
  obtain ⟨v, g1, g2, g3⟩ := h.held
  have hs := h.size
  refine (quPut_yes M hM L d hd hp v C W g1).mono ?_
  rintro e w' ⟨rfl, v2, p1, p2, p3⟩
  refine ⟨rfl, ⟨v2, p1, fun g hg => ?_, fun g hg e => ?_⟩, h.own.kept p2 (fun g hg hm => ?_), h.ge, h.bel.trans (p2.below hs.1 (fun x hx => ?_)), h.base⟩
  · rcases p3 g hg with e | e
    · exact g2 g e
    · omega
  · rcases p3 g hg with e2 | e2
    · exact g3 g e2 e
    · have := h.own.lt g e
      omega
  · rcases List.mem_cons.1 hm with e | e
    · exact (h.ge g hg).2 e
    · exact g3 g (mem_ownB.1 e) hg
  · rcases List.mem_cons.1 hx with e | e
    · rw [e]
      exact h.base.1
    · exact g2 x (mem_ownB.1 e)
theorem QuL.first {M : Nat} {L L2 : List (List UInt8)} {u : Value} {C B : Nat} {w0 W : World} (h : QuL M L L2 u C B w0 W) :
    Calls Tryz.prog 42 #[.pointer (some ⟨C, 0, none⟩)] W fun e w' => e = .returned (.tuple #[sV (L.getD 0 []), .bool (decide (0 < L.length))]) ∧ W = w' := by
  obtain ⟨v, g1, _⟩ := h.held
  exact quFirst_any M L v C W g1
theorem QuL.take_none {M : Nat} {L2 : List (List UInt8)} {u : Value} {C B : Nat} {w0 W : World} (h : QuL M [] L2 u C B w0 W) :
    Calls Tryz.prog 43 #[.pointer (some ⟨C, 0, none⟩)] W fun e w' => e = .returned (.tuple #[.string ⟨#[]⟩, .bool false]) ∧ W = w' := by
  obtain ⟨v, g1, _⟩ := h.held
  exact quTake_none M v C W g1
theorem QuL.take_some {M : Nat} {x : List UInt8} {L L2 : List (List UInt8)} {u : Value} {C B : Nat} {w0 W : World} (h : QuL M (x :: L) L2 u C B w0 W) :
    Calls Tryz.prog 43 #[.pointer (some ⟨C, 0, none⟩)] W fun e w' => e = .returned (.tuple #[.string (str x), .bool true]) ∧ QuL M L L2 u C B w0 w' := by
  obtain ⟨v, g1, g2, g3⟩ := h.held
  have hs := h.size
  refine (quTake_some M x L v C W g1).mono ?_
  rintro e w' ⟨rfl, v2, p1, p2, p3⟩
  refine ⟨rfl, ⟨v2, p1, fun g hg => g2 g (by rw [← p3]; exact hg), fun g hg => g3 g (by rw [← p3]; exact hg)⟩, h.own.kept p2 (fun g hg hm => ?_), h.ge, h.bel.trans (p2.below hs.1 (fun x hx => ?_)), h.base⟩
  · rcases List.mem_cons.1 hm with e | e
    · exact (h.ge g hg).2 e
    · exact g3 g (mem_ownB.1 e) hg
  · rcases List.mem_cons.1 hx with e | e
    · rw [e]
      exact h.base.1
    · exact g2 x (mem_ownB.1 e)
theorem QuL.len {M : Nat} {L L2 : List (List UInt8)} {u : Value} {C B : Nat} {w0 W : World} (h : QuL M L L2 u C B w0 W) :
    Calls Tryz.prog 44 #[.pointer (some ⟨C, 0, none⟩)] W fun e w' => e = .returned (.int .i64 (L.length : Int)) ∧ W = w' := by
  obtain ⟨v, g1, _⟩ := h.held
  exact quLen_any M L v C W g1
theorem QuL.bytes {M : Nat} {L L2 : List (List UInt8)} {u : Value} {C B : Nat} {w0 W : World} (h : QuL M L L2 u C B w0 W) (hL : L.length ≤ 50) (h14 : ∀ l ∈ L, l.length ≤ 1400) :
    Calls Tryz.prog 45 #[.pointer (some ⟨C, 0, none⟩)] W fun e w' => e = .returned (.int .i64 (quSum L : Int)) ∧ W = w' := by
  obtain ⟨v, g1, _⟩ := h.held
  exact quBytes_any M L hL h14 v C W g1
/-- The law's own row without its first one. -/
theorem QuL.cut {M : Nat} {x : List UInt8} {L L2 : List (List UInt8)} {u : Value} {C B : Nat} {w0 W : World} (h : QuL M L (x :: L2) u C B w0 W) :
    ∃ g o cap, u = .slice (some ⟨g, o, none⟩) (L2.length + 1) cap ∧ L2.length + 1 ≤ cap ∧ cap ≤ 9223372036854775807 ∧ W.cell? ⟨g, o, none⟩ = some (.string (str x)) ∧ QuL M L L2 (.slice (some ⟨g, if cap = 1 then o else o + 1, none⟩) L2.length (cap - 1)) C B w0 W := by
  obtain ⟨g, o, cap, rfl, h1, h2, h3, h4, h5⟩ := h.own.cons
  obtain ⟨v, g1, g2, g3⟩ := h.held
  exact ⟨g, o, cap, rfl, h1, h2, h4, ⟨v, g1, g2, g3⟩, h5, h.ge, h.bel, h.base⟩
theorem QuL.cutAt {M : Nat} {x : List UInt8} {L L2 : List (List UInt8)} {g o n cap : Nat} {C B : Nat} {w0 W : World} (h : QuL M L (x :: L2) (.slice (some ⟨g, o, none⟩) n cap) C B w0 W) :
    W.cell? ⟨g, o, none⟩ = some (.string (str x)) ∧ QuL M L L2 (.slice (some ⟨g, if cap = 1 then o else o + 1, none⟩) L2.length (cap - 1)) C B w0 W := by
  obtain ⟨g2, o2, cap2, e, h1, h2, h3, h4⟩ := h.cut
  injection e with e1 e2 e3
  injection e1 with e1
  injection e1 with e4 e5
  subst e4 e5 e3
  exact ⟨h3, h4⟩
/-- What the queue holds in number and in bytes. -/
def QuOk (M : Nat) (L : List (List UInt8)) : Prop := L.length ≤ M ∧ ∀ l ∈ L, l.length ≤ 1400
theorem QuOk.put {M : Nat} {L : List (List UInt8)} (h : QuOk M L) (d : List UInt8) (h1 : d.length ≤ 1400) (h2 : L.length < M) : QuOk M (L ++ [d]) := by
  refine ⟨by simp; omega, fun l hl => ?_⟩
  rcases List.mem_append.1 hl with hl | hl
  · exact h.2 l hl
  · rw [List.mem_singleton.1 hl]
    exact h1
theorem QuOk.tail {M : Nat} {x : List UInt8} {L : List (List UInt8)} (h : QuOk M (x :: L)) : QuOk M L := ⟨by have := h.1; simp at this; omega, fun l hl => h.2 l (List.mem_cons_of_mem _ hl)⟩
theorem quSum_put (L : List (List UInt8)) (d : List UInt8) : quSum (L ++ [d]) = quSum L + d.length := by unfold quSum; simp
theorem quSum_cons (x : List UInt8) (L : List (List UInt8)) : quSum (x :: L) = x.length + quSum L := by unfold quSum; simp
end Go.Proofs.YtfmnpepgmedfpaaGreatDoor

namespace Go.Proofs.YtfmnpepgmedfpaaGreatDoor
open Go.ChangeShapes Go.WideShapes Go.ChangeAt Go.RowKit
set_option linter.unusedVariables false
set_option linter.unusedSimpArgs false

/-- make([]byte, n) of the law's own, read as a text. -/
theorem wp_zerosQ {ops : Array Oper} {rest : List Oper} {o : Oper} {a : Act} {Q : Exit → Act → World → Prop} (hgd : o.guard = none) (l c : Operand) (ho : o.op = Op.makeSlice 54 l c)
    (w : World) (kl kc : IntKind) (L : Int) (n : Nat) (hl : a.eval l = .int kl L) (hc : a.eval c = .int kc L) (hL : L = (n : Int)) (hn : n ≤ 1000000)
    (h : ∀ w' H, Below w.heap.size w w' → (convert 54 9 (.slice (some ⟨H, 0, none⟩) n n)).run Tryz.prog w' = .ok (.string (str (List.replicate n 0))) w' → wpList Tryz.prog ops Q rest (a.put o.dst (.slice (some ⟨H, 0, none⟩) n n)) w') :
    wpList Tryz.prog ops Q (o :: rest) a w := by
  obtain ⟨i0, hi, hz0, hz1, hz2⟩ := info_parts infoU8
  refine wpList_make_full w hgd l c 54 ho w.heap.size 5 i0 (.int .u8 0) 1 Tryz.underlying54 hi hz0 hz1 kl kc L L n hl hc hL hL (by rw [hz2]; omega) (by unfold maxLen; omega) (Nat.le_refl _) (fun w' hrow hg => ?_)
  refine h w' w.heap.size ⟨hg.os, hg.tape, hg.output, hg.size, fun k hk => hg.block k hk (by simp)⟩ ?_
  have hlen : (List.replicate n (0 : UInt8)).length = n := List.length_replicate
  have hc := run_convert_bytes_back (P := Tryz.prog) w' 54 9 5 ⟨w.heap.size, 0, none⟩ n (List.replicate n 0) Tryz.underlying54 Tryz.underlying5 Tryz.underlying9 (fun j hj => by
    have hj' : j < n := by rwa [hlen] at hj
    rw [show (⟨w.heap.size, 0, none⟩ : Addr).add j = ⟨w.heap.size, j, none⟩ from by simp [Addr.add]; exact fun h => h.symm]
    rw [hrow.cellAt j (by omega)]
    have e1 : j % 1 = 0 := Nat.mod_one j
    simp [madeCells, Value.cells, hj', e1])
  rw [hlen] at hc
  exact hc
/-- The operations that came in, the first m of them. -/
def QopAt (w : World) (p : Option Addr) (m : Nat) : Prop := ∀ i, i < m → ∃ (q o : Nat) (z : Int) (s : ByteArray), p = some ⟨q, o, none⟩ ∧ q < w.heap.size ∧ w.cell? ⟨q, o + i * 2, none⟩ = some (.int .i64 z) ∧ w.cell? ⟨q, o + i * 2 + 1, none⟩ = some (.string s) ∧ s.size ≤ maxLen
theorem quAdd (a b c : Nat) (h : c = a + b) (hc : c ≤ 1000000) : IntKind.i64.wrap ((a : Int) + (b : Int)) = (c : Int) ∧ wrap64 ((a : Int) + (b : Int)) = (c : Int) := by
  subst h
  refine ⟨?_, ?_⟩
  · rw [IntKind.wrap_i64]; omega
  · unfold wrap64; omega
theorem quSub (a b c : Nat) (h : c = a + b) (hc : c ≤ 1000000) : IntKind.i64.wrap ((c : Int) - (b : Int)) = (a : Int) ∧ wrap64 ((c : Int) - (b : Int)) = (a : Int) := by
  subst h
  refine ⟨?_, ?_⟩
  · rw [IntKind.wrap_i64]; omega
  · unfold wrap64; omega
theorem quLong (K : Nat) (h : (K : Int) < 10) : ∃ N : Nat, IntKind.i64.wrap (1395 + (K : Int)) = (N : Int) ∧ wrap64 (1395 + (K : Int)) = (N : Int) ∧ N ≤ 1404 := by
  obtain ⟨x, hx⟩ : ∃ x, (1395 : Int) + (K : Int) = x := ⟨_, rfl⟩
  rw [hx]
  refine ⟨x.toNat, ?_, ?_, by omega⟩
  · rw [IntKind.wrap_i64]; omega
  · unfold wrap64; omega
set_option maxHeartbeats 16000000 in
set_option maxRecDepth 100000 in
theorem queueAll_walk (m : Int) (p : Option Addr) (n cp : Nat) (hn : n ≤ 9223372036854775807) (big : Int) (w : World) (hI : QopAt w p (min n 60))
    (hbg : Calls Tryz.prog 15 #[] w fun e w' => e = .returned (.bool true) ∧ Below w.heap.size w w') :
    Calls Tryz.prog 13 #[.int .i64 m, .slice p n cp, .int .i64 big] w fun e w' => e = .returned (.bool true) ∧ Below w.heap.size w w' := by
  have HBG := Lib.hid hbg
  by_cases hm : m < 1 ∨ 50 < m
  · have HNO := Lib.hid (quNew_no m hm)
    clear hbg
    by_cases h1 : m < 1
    · have d1 := decide_eq_true h1
      go_enter Tryz.func13, Tryz.ntmps13
      go_wp2_with (first
        | (go_at_call 15; (with_reducible refine HBG.out.mono ?_); rintro e w0 ⟨rfl, hb0⟩)
        | (go_at_call 40; (with_reducible refine (HNO.out _).mono ?_); rintro e w3 ⟨rfl, rfl⟩))
      go_ret
      exact ⟨rfl, hb0⟩
    · have d1 := decide_eq_false h1
      have d2 : decide ((50 : Int) < m) = true := decide_eq_true (by omega)
      go_enter Tryz.func13, Tryz.ntmps13
      go_wp2_with (first
        | (go_at_call 15; (with_reducible refine HBG.out.mono ?_); rintro e w0 ⟨rfl, hb0⟩)
        | (go_at_call 40; (with_reducible refine (HNO.out _).mono ?_); rintro e w3 ⟨rfl, rfl⟩))
      go_ret
      exact ⟨rfl, hb0⟩
  · obtain ⟨M, rfl⟩ : ∃ M : Nat, m = (M : Int) := ⟨m.toNat, by omega⟩
    obtain ⟨hM1, hM⟩ : 1 ≤ M ∧ M ≤ 50 := by omega
    clear hm hbg
    obtain ⟨B, hB⟩ : ∃ B, w.heap.size = B := ⟨_, rfl⟩
    have HBe := Lib.hid hB
    have HNEW : Hid (∀ W, Below B w W → Calls Tryz.prog 40 #[.int .i64 (M : Int)] W fun e w' => ∃ C, e = .returned (.pointer (some ⟨C, 0, none⟩)) ∧ QuL M [] [] (.slice none 0 0) C B w w') := Lib.hid (fun W h => QuL.new M hM1 hM B w W h (by omega))
    have HI : Hid (∀ i, i < min n 60 → ∃ (q o : Nat) (z : Int) (s : ByteArray), p = some ⟨q, o, none⟩ ∧ s.size ≤ maxLen ∧ ∀ W, Below B w W → W.cell? ⟨q, o + i * 2, none⟩ = some (.int .i64 z) ∧ W.cell? ⟨q, o + i * 2 + 1, none⟩ = some (.string s)) := Lib.hid (fun i hi => by
      obtain ⟨q, o, z, s, h1, h2, h3, h4, h5⟩ := hI i hi
      refine ⟨q, o, z, s, h1, h5, fun W hW => ?_⟩
      rw [← hB] at hW
      exact ⟨(hW.cell (p := ⟨q, o + i * 2, none⟩) h2).trans h3, (hW.cell (p := ⟨q, o + i * 2 + 1, none⟩) h2).trans h4⟩)
    obtain ⟨a, ha, a1, a2, J, hJ, hJ3⟩ := mod_atN big 60 (by decide)
    have r1 : IntKind.i64.wrap (a + 60) = a + 60 := by rw [IntKind.wrap_i64]; omega
    have r2 : wrap64 (a + 60) = a + 60 := by unfold wrap64; omega
    obtain ⟨c, hc, c1, c2, K, hK, hK3⟩ := mod_atN big 10 (by decide)
    have s1 : IntKind.i64.wrap (c + 10) = c + 10 := by rw [IntKind.wrap_i64]; omega
    have s2 : wrap64 (c + 10) = c + 10 := by unfold wrap64; omega
    obtain ⟨N0, s3, s4, hN0⟩ := quLong K hK3
    have HN0 := Lib.hid hN0
    have HS34 := Lib.hid (And.intro s3 s4)
    clear hN0 s3 s4
    have d1 : decide ((M : Int) < 1) = false := decide_eq_false (by omega)
    have d2 : decide ((50 : Int) < (M : Int)) = false := decide_eq_false (by omega)
    have HMM : Hid (1 ≤ M ∧ M ≤ 50) := Lib.hid ⟨hM1, hM⟩
    clear hI hB hM1 hM
    go_enter Tryz.func13, Tryz.ntmps13
    go_wp2_with (first
      | (go_at_call 15; (with_reducible refine HBG.out.mono ?_); rintro e w0 ⟨rfl, hb0⟩)
      | (go_at_call 40; (with_reducible refine (HNEW.out _ (by rw [← HBe.out]; exact hb0)).mono ?_); rintro e w3 ⟨C, rfl, h3⟩; have H3 := Lib.hid h3; clear h3 hb0))
    clear HBG HNEW
    go_loopw [9, 10, 11] (fun u bv iv wr => ∃ (i : Nat) (L : List (List UInt8)), iv = .int .i64 (i : Int) ∧ i ≤ min n 60 ∧ bv = .int .i64 (quSum L : Int) ∧ Hid (QuOk M L) ∧ Hid (QuL M L L u C B w wr)) (fun _ _ iv _ => min n 60 - (intOf iv).toNat)
    case atStart => exact ⟨0, [], rfl, Nat.zero_le _, rfl, Lib.hid ⟨Nat.zero_le _, fun l hl => by cases hl⟩, H3⟩
    case round =>
      obtain ⟨i, L, rfl, hi, rfl, hok, hq⟩ := hrel
      clear H3
      by_cases hil : i < min n 60
      · have d3 : decide ((i : Int) < (n : Int)) = true := decide_eq_true (by omega)
        have d4 : decide ((i : Int) < 60) = true := decide_eq_true (by omega)
        obtain ⟨q, o, z, s, rfl, hs, hcell⟩ := HI.out i hil
        have HC := Lib.hid hcell
        have e1 := (hcell wr hq.out.bel).2
        obtain ⟨l, hl, htx⟩ := text_cutN s 30 (by decide) hs
        have HTX : Hid (∀ W, Calls Tryz.prog 27 #[.string s, .int .i64 30] W fun e w' => e = .returned (.string (str l)) ∧ W = w') := Lib.hid htx
        have HL := Lib.hid hl
        clear htx hl hs hcell
        go_upto_if 52 with (go_at_call 27; (with_reducible refine (HTX.out _).mono ?_); rintro e w4 ⟨rfl, rfl⟩)
        clear e1 HTX
        go_cut [12] (fun t wx => ∃ d : List UInt8, t = .string (str d) ∧ d.length ≤ 1404 ∧ Hid (QuL M L L u9 C B w wx))
        case first =>
          by_cases hij : i = J
          · subst hij
            have HZ2 : Hid (N0 ≤ 1000000) := Lib.hid (Nat.le_trans HN0.out (by decide))
            have bij : ((i : Int) == (i : Int)) = true := by simp
            obtain ⟨s3, s4⟩ := HS34.out
            go_wp2_with (at_make; refine wp_zerosQ rfl _ _ rfl _ _ _ _ N0 rfl rfl rfl HZ2.out ?_; rintro w5 H hb5 hcv; have H5 := Lib.hid (hq.out.below hb5); clear hb5)
            go_meet
            exact ⟨_, rfl, by rw [List.length_replicate]; exact HN0.out, H5⟩
          · have bij : ((i : Int) == (J : Int)) = false := by rw [beq_eq_false_iff_ne]; omega
            go_wp2_with fail
            go_meet
            exact ⟨l, rfl, by have := HL.out; omega, hq⟩
        case rest =>
          obtain ⟨d, rfl, hd, hq2⟩ := hcut
          clear ha hJ hc hK r1 r2 s1 s2 HS34 HN0 hq a1 a2 c1 c2 hJ3 hK3 HI HL
          obtain ⟨pu, cu, rfl⟩ := hq2.out.own.len
          have hi1 : i + 1 ≤ min n 60 := by omega
          have HI1 := Lib.hid hi1
          clear hi1
          have e0 := (HC.out wc hq2.out.bel).1
          obtain ⟨D, hD⟩ : ∃ D, str d = D := ⟨_, rfl⟩
          have hDs : D.size = d.length := by rw [← hD]; rfl
          rw [hD]
          by_cases hz : z = 0
          · subst hz
            by_cases h14 : 1400 < d.length
            · have d5 : decide ((1400 : Int) < (D.size : Int)) = true := decide_eq_true (by omega)
              have hp : quPut M L d = 13 := by unfold quPut; rw [if_pos h14]
              have HPUT : Hid (Calls Tryz.prog 41 #[.pointer (some ⟨C, 0, none⟩), .string D] wc fun e w' => e = .returned (.int .i64 13) ∧ QuL M L L (.slice pu L.length cu) C B w w') := Lib.hid (by
                have h9 := hq2.out.put_no d (by omega) (by rw [hp]; decide)
                rw [hp, hD] at h9
                exact h9)
              have HLN : Hid (∀ W, QuL M L L (.slice pu L.length cu) C B w W → Calls Tryz.prog 44 #[.pointer (some ⟨C, 0, none⟩)] W fun e w' => e = .returned (.int .i64 (L.length : Int)) ∧ W = w') := Lib.hid (fun W h => h.len)
              have HBY : Hid (∀ W, QuL M L L (.slice pu L.length cu) C B w W → Calls Tryz.prog 45 #[.pointer (some ⟨C, 0, none⟩)] W fun e w' => e = .returned (.int .i64 (quSum L : Int)) ∧ W = w') := Lib.hid (fun W h => h.bytes (Nat.le_trans hok.out.1 HMM.out.2) hok.out.2)
              clear hp hD
              go_wp2_with (first
                | (go_at_call 41; (with_reducible refine HPUT.out.mono ?_); rintro e w6 ⟨rfl, h6⟩; have HF := Lib.hid h6; clear h6)
                | (go_at_call 44; (with_reducible refine (HLN.out _ HF.out).mono ?_); rintro e w7 ⟨rfl, rfl⟩)
                | (go_at_call 45; (with_reducible refine (HBY.out _ HF.out).mono ?_); rintro e w8 ⟨rfl, rfl⟩))
              refine ⟨⟨i + 1, L, by go_num, HI1.out, rfl, hok, HF⟩, ?_⟩
              simp [intOf]; try clear q1 q2
              omega
            · have d5 : decide ((1400 : Int) < (D.size : Int)) = false := decide_eq_false (by omega)
              by_cases hML : M ≤ L.length
              · have d6 : decide ((M : Int) ≤ (L.length : Int)) = true := decide_eq_true (by omega)
                have hp : quPut M L d = 9 := by unfold quPut; rw [if_neg h14, if_pos hML]
                have HPUT : Hid (Calls Tryz.prog 41 #[.pointer (some ⟨C, 0, none⟩), .string D] wc fun e w' => e = .returned (.int .i64 9) ∧ QuL M L L (.slice pu L.length cu) C B w w') := Lib.hid (by
                  have h9 := hq2.out.put_no d (by omega) (by rw [hp]; decide)
                  rw [hp, hD] at h9
                  exact h9)
                have HLN : Hid (∀ W, QuL M L L (.slice pu L.length cu) C B w W → Calls Tryz.prog 44 #[.pointer (some ⟨C, 0, none⟩)] W fun e w' => e = .returned (.int .i64 (L.length : Int)) ∧ W = w') := Lib.hid (fun W h => h.len)
                have HBY : Hid (∀ W, QuL M L L (.slice pu L.length cu) C B w W → Calls Tryz.prog 45 #[.pointer (some ⟨C, 0, none⟩)] W fun e w' => e = .returned (.int .i64 (quSum L : Int)) ∧ W = w') := Lib.hid (fun W h => h.bytes (Nat.le_trans hok.out.1 HMM.out.2) hok.out.2)
                clear hp hD
                go_wp2_with (first
                  | (go_at_call 41; (with_reducible refine HPUT.out.mono ?_); rintro e w6 ⟨rfl, h6⟩; have HF := Lib.hid h6; clear h6)
                  | (go_at_call 44; (with_reducible refine (HLN.out _ HF.out).mono ?_); rintro e w7 ⟨rfl, rfl⟩)
                  | (go_at_call 45; (with_reducible refine (HBY.out _ HF.out).mono ?_); rintro e w8 ⟨rfl, rfl⟩))
                refine ⟨⟨i + 1, L, by go_num, HI1.out, rfl, hok, HF⟩, ?_⟩
                simp [intOf]; try clear q1 q2
                omega
              · have d6 : decide ((M : Int) ≤ (L.length : Int)) = false := decide_eq_false (by omega)
                have hp : quPut M L d = 0 := by unfold quPut; rw [if_neg h14, if_neg hML]
                obtain ⟨L', hL'⟩ : ∃ L', L ++ [d] = L' := ⟨_, rfl⟩
                have HOK2 : Hid (QuOk M L') := Lib.hid (by rw [← hL']; exact hok.out.put d (by omega) (by omega))
                have hsum : quSum L' = quSum L + D.size := by rw [← hL', hDs]; exact quSum_put L d
                have hbd : quSum L ≤ L.length * 1400 := quSum_le L hok.out.2
                have hM50 := HMM.out.2
                have HLL : Hid (L.length ≤ 1073741824) := Lib.hid (Nat.le_trans hok.out.1 (Nat.le_trans HMM.out.2 (by decide)))
                have hdm : d.length ≤ 9223372036854775807 := by omega
                obtain ⟨q1, q2⟩ := quAdd (quSum L) d.length (quSum L') (by omega) (by omega)
                have HPUT : Hid (∀ u W, QuL M L L' u C B w W → Calls Tryz.prog 41 #[.pointer (some ⟨C, 0, none⟩), .string D] W fun e w' => e = .returned (.int .i64 0) ∧ QuL M L' L' u C B w w') := Lib.hid (fun u W h => by
                  have h9 := h.put_yes HMM.out.2 d hdm hp
                  rw [hL', hD] at h9
                  exact h9)
                have HLN : Hid (∀ u W, QuL M L' L' u C B w W → Calls Tryz.prog 44 #[.pointer (some ⟨C, 0, none⟩)] W fun e w' => e = .returned (.int .i64 (L'.length : Int)) ∧ W = w') := Lib.hid (fun u W h => h.len)
                have HBY : Hid (∀ u W, QuL M L' L' u C B w W → Calls Tryz.prog 45 #[.pointer (some ⟨C, 0, none⟩)] W fun e w' => e = .returned (.int .i64 (quSum L' : Int)) ∧ W = w') := Lib.hid (fun u W h => h.bytes (Nat.le_trans HOK2.out.1 HMM.out.2) HOK2.out.2)
                have HD := Lib.hid hD
                have HL2 := Lib.hid hL'
                clear hp hD hsum hbd hM50 hL' hdm
                go_wp2_with (first
                  | (at_builtin; refine wp_offA rfl _ _ rfl (.slice pu L.length cu) L rfl wc _ d (by rw [HD.out]) hq2.out.own _ rfl rfl HLL.out ?_; intro v9 w9 ho9 hk9 hat9; rw [HL2.out] at ho9; have H9 : Hid (QuL M L L' v9 C B w w9) := Lib.hid (hq2.out.app ho9 hk9 hat9); obtain ⟨pv, cv, rfl⟩ := ho9.len; clear ho9 hk9 hat9)
                  | (go_at_call 41; (with_reducible refine (HPUT.out _ _ H9.out).mono ?_); rintro e w6 ⟨rfl, h6⟩; have HF := Lib.hid h6; clear h6)
                  | (go_at_call 44; (with_reducible refine (HLN.out _ _ HF.out).mono ?_); rintro e w7 ⟨rfl, rfl⟩)
                  | (go_at_call 45; (with_reducible refine (HBY.out _ _ HF.out).mono ?_); rintro e w8 ⟨rfl, rfl⟩))
                refine ⟨⟨i + 1, L', by go_num, HI1.out, rfl, HOK2, HF⟩, ?_⟩
                simp [intOf]; try clear q1 q2
                omega
          · have bz : ((z : Int) == 0) = false := by rw [beq_eq_false_iff_ne]; exact hz
            rcases L with _ | ⟨x, L'⟩
            · have HF1 : Hid (Calls Tryz.prog 42 #[.pointer (some ⟨C, 0, none⟩)] wc fun e w' => e = .returned (.tuple #[.string ⟨#[]⟩, .bool false]) ∧ wc = w') := Lib.hid hq2.out.first
              have HT1 : Hid (Calls Tryz.prog 43 #[.pointer (some ⟨C, 0, none⟩)] wc fun e w' => e = .returned (.tuple #[.string ⟨#[]⟩, .bool false]) ∧ wc = w') := Lib.hid hq2.out.take_none
              have HLN : Hid (Calls Tryz.prog 44 #[.pointer (some ⟨C, 0, none⟩)] wc fun e w' => e = .returned (.int .i64 0) ∧ wc = w') := Lib.hid hq2.out.len
              have HBY : Hid (Calls Tryz.prog 45 #[.pointer (some ⟨C, 0, none⟩)] wc fun e w' => e = .returned (.int .i64 (quSum [] : Int)) ∧ wc = w') := Lib.hid (hq2.out.bytes (by decide) (fun l hl => by cases hl))
              clear hD
              go_wp2_with (first
                | (go_at_call 42; (with_reducible refine HF1.out.mono ?_); rintro e w6 ⟨rfl, rfl⟩)
                | (go_at_call 43; (with_reducible refine HT1.out.mono ?_); rintro e w7 ⟨rfl, rfl⟩)
                | (go_at_call 44; (with_reducible refine HLN.out.mono ?_); rintro e w8 ⟨rfl, rfl⟩)
                | (go_at_call 45; (with_reducible refine HBY.out.mono ?_); rintro e w9 ⟨rfl, rfl⟩))
              refine ⟨⟨i + 1, [], by go_num, HI1.out, rfl, hok, hq2⟩, ?_⟩
              simp [intOf]
              omega
            · obtain ⟨g, o2, cap, hu, hc1, hc2, hcell, -⟩ := hq2.out.cut
              injection hu with e1 _ e3
              subst e1 e3
              have hFirst : Calls Tryz.prog 42 #[.pointer (some ⟨C, 0, none⟩)] wc fun e w' => e = .returned (.tuple #[.string (str x), .bool true]) ∧ wc = w' := by
                have h9 := hq2.out.first
                rw [decide_eq_true (show 0 < (x :: L').length by simp)] at h9
                exact h9
              have HF1 := Lib.hid hFirst
              have HT1 := Lib.hid hq2.out.take_some
              have HOK2 : Hid (QuOk M L') := Lib.hid hok.out.tail
              have hbd : quSum (x :: L') ≤ (x :: L').length * 1400 := quSum_le _ hok.out.2
              have hM50 := HMM.out.2
              have hML := hok.out.1
              have hsum : quSum (x :: L') = quSum L' + x.length := by rw [quSum_cons, Nat.add_comm]
              obtain ⟨S1, hS1⟩ : ∃ S1, quSum (x :: L') = S1 := ⟨_, rfl⟩
              obtain ⟨N1, hN1⟩ : ∃ N1, (x :: L').length = N1 := ⟨_, rfl⟩
              have hN1n : N1 = L'.length + 1 := by rw [← hN1]; rfl
              have HN1 := Lib.hid hN1n
              rw [hS1] at hbd hsum
              rw [hN1] at hbd hML HT1
              rw [hS1, hN1]
              rw [← hN1n] at hc1
              have hN1p : 0 < N1 := by omega
              have hS3 : S1 ≤ 1000000 := by omega
              have d7 : decide ((0 : Int) < (N1 : Int)) = true := decide_eq_true (by omega)
              have hNP : N1 ≤ cu := hc1
              obtain ⟨q1, q2⟩ := quSub (quSum L') x.length S1 hsum hS3
              obtain ⟨X, hX⟩ : ∃ X, str x = X := ⟨_, rfl⟩
              have hXs : X.size = x.length := by rw [← hX]; rfl
              have HX := Lib.hid hX
              rw [hX] at HF1 HT1 hcell
              have hN2 : L'.length = N1 - 1 := by omega
              have HN2 := Lib.hid hN2
              have HLN : Hid (∀ u W, QuL M L' L' u C B w W → Calls Tryz.prog 44 #[.pointer (some ⟨C, 0, none⟩)] W fun e w' => e = .returned (.int .i64 ((N1 - 1 : Nat) : Int)) ∧ W = w') := Lib.hid (fun u W h => by
                have h9 := h.len
                rw [HN2.out] at h9
                exact h9)
              have HBY : Hid (∀ u W, QuL M L' L' u C B w W → Calls Tryz.prog 45 #[.pointer (some ⟨C, 0, none⟩)] W fun e w' => e = .returned (.int .i64 (quSum L' : Int)) ∧ W = w') := Lib.hid (fun u W h => h.bytes (Nat.le_trans HOK2.out.1 HMM.out.2) HOK2.out.2)
              clear hD hFirst hX hN1 hS1 hbd hsum hS3 hML hM50 hN1n hok hN2
              by_cases hcu : cu = 1
              · subst hcu
                go_wp2_with (first
                  | (go_at_call 42; (with_reducible refine HF1.out.mono ?_); rintro e w6 ⟨rfl, rfl⟩)
                  | (go_at_call 43; (with_reducible refine HT1.out.mono ?_); rintro e w7 ⟨rfl, h7⟩; have h7c := h7.cutAt; have c7 := h7c.1; rw [HX.out] at c7; have HF : Hid (QuL M L' L' (.slice (some ⟨g, o2, none⟩) (N1 - 1) 0) C B w w7) := Lib.hid (by have h8 := h7c.2; rw [if_pos rfl, HN2.out] at h8; exact h8); clear h7 h7c)
                  | (go_at_call 44; (with_reducible refine (HLN.out _ _ HF.out).mono ?_); rintro e w8 ⟨rfl, rfl⟩)
                  | (go_at_call 45; (with_reducible refine (HBY.out _ _ HF.out).mono ?_); rintro e w9 ⟨rfl, rfl⟩))
                refine ⟨⟨i + 1, L', by go_num, HI1.out, rfl, HOK2, Lib.hid (by have h := HF.out; rw [Nat.sub_eq_zero_of_le hNP] at h; exact h)⟩, ?_⟩
                simp [intOf]; clear q1 q2
                omega
              · go_wp2_with (first
                  | (go_at_call 42; (with_reducible refine HF1.out.mono ?_); rintro e w6 ⟨rfl, rfl⟩)
                  | (go_at_call 43; (with_reducible refine HT1.out.mono ?_); rintro e w7 ⟨rfl, h7⟩; have h7c := h7.cutAt; have c7 := h7c.1; rw [HX.out] at c7; have HF : Hid (QuL M L' L' (.slice (some ⟨g, o2 + 1, none⟩) (N1 - 1) (cu - 1)) C B w w7) := Lib.hid (by have h8 := h7c.2; rw [if_neg hcu, HN2.out] at h8; exact h8); clear h7 h7c)
                  | (go_at_call 44; (with_reducible refine (HLN.out _ _ HF.out).mono ?_); rintro e w8 ⟨rfl, rfl⟩)
                  | (go_at_call 45; (with_reducible refine (HBY.out _ _ HF.out).mono ?_); rintro e w9 ⟨rfl, rfl⟩))
                refine ⟨⟨i + 1, L', by go_num, HI1.out, rfl, HOK2, HF⟩, ?_⟩
                simp [intOf]; clear q1 q2
                omega
      · obtain rfl : i = min n 60 := by omega
        by_cases hn6 : n ≤ 60
        · rw [Nat.min_eq_left hn6]
          have d3 : decide ((n : Int) < (n : Int)) = false := decide_eq_false (by omega)
          go_wp2_with fail
          go_ret
          exact ⟨rfl, by rw [HBe.out]; exact hq.out.bel⟩
        · rw [Nat.min_eq_right (by omega)]
          have d3 : decide (((60 : Nat) : Int) < (n : Int)) = true := decide_eq_true (by omega)
          have d4 : decide (((60 : Nat) : Int) < 60) = false := decide_eq_false (by omega)
          go_wp2_with fail
          go_ret
          exact ⟨rfl, by rw [HBe.out]; exact hq.out.bel⟩
end Go.Proofs.YtfmnpepgmedfpaaGreatDoor

namespace Go.Proofs.YtfmnpepgmedfpaaGreatDoor
open Go.ChangeShapes Go.WideShapes Go.Deep Go.RowKit
set_option linter.unusedVariables false

set_option maxRecDepth 100000 in
theorem open_qops {H : Type} {enc : TypeId × Value → H} {W : World} {p : Option Addr} {n c : Nat} {d : DataW H} {q : List MemPlace}
    (h : DataW.Trod enc Tryz.prog W 0 (fun _ => true) true 67 (.slice p n c) d q) : n ≤ c ∧ c ≤ 9223372036854775807 ∧ QopAt W p (min n 60) := by
  obtain ⟨fuel, hf⟩ := h
  rcases open_slice Tryz.underlying67 hf with ⟨hcs, hx⟩ | ⟨a, len, cap, m, n', D, Pl, hcs, hb, hl, hm, hmm, hx, hi⟩
  · simp [Value.cells] at hcs
    obtain ⟨rfl, rfl, rfl⟩ := hcs
    exact ⟨by omega, by omega, fun i hi => absurd hi (by omega)⟩
  · simp [Value.cells] at hcs
    obtain ⟨rfl, rfl, rfl⟩ := hcs
    have hm' : c ≤ 9223372036854775807 := hm
    simp only [if_true] at hmm
    have hC : Tryz.prog.cellsOf 72 = 2 := by kernel_rfl
    rw [hC] at hi
    refine ⟨hl, hm', fun i hin => ?_⟩
    obtain ⟨cs', hc, ht'⟩ := hi i (by omega)
    obtain ⟨_, hcl, hat⟩ := World.cells?_some hc
    obtain ⟨ys, n2, hn2, hy, hlen, hyl, hff⟩ := DataW.trod_struct Tryz.underlying72 ht'
    match cs', hcl with
    | [x0, x1], _ =>
      have e0 : ys[0]? = some (ys[0]'(by rw [hyl]; decide)) := List.getElem?_eq_getElem _
      have e1 : ys[1]? = some (ys[1]'(by rw [hyl]; decide)) := List.getElem?_eq_getElem _
      have h0 := hff 0 _ rfl
      have h1 := hff 1 _ rfl
      rw [e0] at h0
      rw [e1] at h1
      have k0 : DataW.trod enc Tryz.prog W 0 (fun _ => true) true n2 3 [x0] = some (ys[0]'(by rw [hyl]; decide)) := h0
      have k1 : DataW.trod enc Tryz.prog W 0 (fun _ => true) true n2 9 [x1] = some (ys[1]'(by rw [hyl]; decide)) := h1
      obtain ⟨z0, hz0, _, w0⟩ := DataW.trod_int Tryz.underlying3 k0
      obtain ⟨s1, hs1, _, hsl⟩ := DataW.trod_string Tryz.underlying9 k1
      simp at hz0 hs1
      subst hz0 hs1
      have c0 := hat 0 (by decide)
      have c1 := hat 1 (by decide)
      obtain ⟨cs0, hc0, _⟩ := hi 0 (by omega)
      obtain ⟨_, hcl0, hat0⟩ := World.cells?_some hc0
      have g0 := hat0 0 (by decide)
      rw [List.getElem?_eq_getElem (by omega), Nat.zero_mul] at g0
      have ea : a.add 0 = a := by unfold Addr.add; simp
      rw [ea] at g0
      obtain ⟨b, o, rfl, _⟩ := addr_plain g0
      rw [add_plain, add_plain] at c0 c1
      exact ⟨b, o, z0, s1, rfl, World.block_lt_of_cell? W _ c0, c0, c1, hsl⟩
end Go.Proofs.YtfmnpepgmedfpaaGreatDoor
