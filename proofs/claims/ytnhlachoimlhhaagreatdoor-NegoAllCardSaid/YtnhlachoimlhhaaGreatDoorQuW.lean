/-
  Package queue: a queue over its block; New, Len, First, Bytes, Put.
  Package queue: slices.Delete of the first text; Take, Put, Bytes, New.
  Package queue: Put that takes; Bytes; New.
-/
import Derived.Test.YtnhlachoimlhhaaGreatDoorNgX
import Derived.BigQuiet
import Derived.Maps.AppendAt
namespace Go.Proofs.YtnhlachoimlhhaaGreatDoor
open Go.ChangeShapes Go.WideShapes Go.ChangeAt Go.RowKit
set_option linter.unusedVariables false
set_option linter.unusedSimpArgs false

/-- A row of texts at its block's head. -/
def TxRow (v : Value) (L : List (List UInt8)) (w : World) : Prop := w.ownsRow 0 9 1 v L.length (L.map sV)
theorem TxRow.nil (w : World) : TxRow (.slice none 0 0) [] w := World.ownsRow_nil _ _ _ _
theorem TxRow.kept {v : Value} {L : List (List UInt8)} {S : List Nat} {w w' : World} (h : TxRow v L w) (k : Kept S w w') (hn : ∀ g, v.ownBlock = some g → g ∉ S) : TxRow v L w' := by
  refine ⟨h.1, ?_⟩
  rcases h.2 with hv | ⟨g, cap, cur, rfl, hb, hg, rest⟩
  · exact .inl hv
  · exact .inr ⟨g, cap, cur, rfl, hb, (k.block g (Array.getElem?_eq_some_iff.1 hg).1 (hn g rfl)).trans hg, rest⟩
theorem TxRow.shape {v : Value} {L : List (List UInt8)} {w : World} (h : TxRow v L w) : (L = [] ∧ v = .slice none 0 0) ∨ ∃ g cap, v = .slice (some ⟨g, 0, none⟩) L.length cap ∧ L.length ≤ cap ∧ cap ≤ 9223372036854775807 ∧ g < w.heap.size ∧ (∃ cur, BlkIs cur 9 g w ∧ cur.size = cap ∧ cur.toList.take L.length = L.map sV) ∧ ∀ i, i < L.length → w.cell? ⟨g, i, none⟩ = some (sV (L.getD i [])) := by
  rcases h.2 with ⟨rfl, h0⟩ | ⟨g, cap, cur, rfl, _, hg, h1, h2, h3, ht⟩
  · exact .inl ⟨List.eq_nil_of_length_eq_zero h0, rfl⟩
  · rw [Nat.mul_one] at h3 ht
    refine .inr ⟨g, cap, rfl, h1, by unfold maxLen at h2; omega, (Array.getElem?_eq_some_iff.1 hg).1, ⟨cur, hg, h3, ht⟩, fun i hi => ?_⟩
    rw [cell_of_row w g i cur _ _ hg, ← Array.getElem?_toList]
    have e : cur.toList[i]? = (L.map sV)[i]? := by rw [← ht, List.getElem?_take_of_lt hi]
    rw [e, List.getElem?_map, List.getElem?_eq_getElem hi, List.getD_eq_getElem?_getD, List.getElem?_eq_getElem hi]
    rfl
structure QuAt (M : Nat) (L : List (List UInt8)) (v : Value) (C : Nat) (w : World) : Prop where
  blk : BlkIs #[.int .i64 (M : Int), v] 135 C w
  row : TxRow v L w
theorem QuAt.kept {M : Nat} {L : List (List UInt8)} {v : Value} {C : Nat} {S : List Nat} {w w' : World} (h : QuAt M L v C w) (k : Kept S w w') (hC : C ∉ S) (hn : ∀ g, v.ownBlock = some g → g ∉ S) : QuAt M L v C w' := ⟨h.blk.kept k hC, h.row.kept k hn⟩
theorem QuAt.ne {M : Nat} {L : List (List UInt8)} {v : Value} {C : Nat} {w : World} (h : QuAt M L v C w) : v.ownBlock ≠ some C := by
  intro hg
  rcases h.row.2 with ⟨rfl, _⟩ | ⟨a, cap, cur, rfl, _, ha, _⟩
  · cases hg
  · have e1 : a = C := by simpa [Value.ownBlock] using hg
    subst e1
    have hb := h.blk
    unfold BlkIs at hb
    rw [ha] at hb
    injection hb with hb
    injection hb with _ hb _
    exact absurd hb (by decide)
theorem TxRow.len {v : Value} {L : List (List UInt8)} {w : World} (h : TxRow v L w) : ∃ p cap, v = .slice p L.length cap := by
  rcases h.shape with ⟨rfl, rfl⟩ | ⟨g, cap, rfl, _⟩
  · exact ⟨none, 0, rfl⟩
  · exact ⟨_, cap, rfl⟩
theorem quLen_any (M : Nat) (L : List (List UInt8)) (v : Value) (C : Nat) (w : World) (h : QuAt M L v C w) :
    Calls Tryz.prog 46 #[.pointer (some ⟨C, 0, none⟩)] w fun e w' => e = .returned (.int .i64 (L.length : Int)) ∧ w = w' := by
  have c1 := BlkIs.cell h.blk 1
  obtain ⟨p, cap, rfl⟩ := h.row.len
  have c1' : w.cell? ⟨C, 1, none⟩ = some (.slice p L.length cap) := c1
  generalize L.length = N at *
  clear h c1
  go_enter Tryz.func46, Tryz.ntmps46
  go_wp2
  go_ret
  exact ⟨rfl, rfl⟩
theorem quFirst_any (M : Nat) (L : List (List UInt8)) (v : Value) (C : Nat) (w : World) (h : QuAt M L v C w) :
    Calls Tryz.prog 58 #[.pointer (some ⟨C, 0, none⟩)] w fun e w' => e = .returned (.tuple #[sV (L.getD 0 []), .bool (decide (0 < L.length))]) ∧ w = w' := by
  have HL := Lib.hid (quLen_any M L v C w h)
  have c1 : w.cell? ⟨C, 1, none⟩ = some v := BlkIs.cell h.blk 1
  rcases h.row.shape with ⟨rfl, rfl⟩ | ⟨g, cap, rfl, h1, h2, h3, _, h5⟩
  · clear h
    go_enter Tryz.func58, Tryz.ntmps58
    go_wp2_with (go_at_call 46; (with_reducible refine HL.out.mono ?_); rintro e w1 ⟨rfl, rfl⟩)
    go_ret2
    exact ⟨rfl, rfl⟩
  · by_cases h0 : L.length = 0
    · have e0 : L = [] := List.eq_nil_of_length_eq_zero h0
      subst e0
      clear h h5
      go_enter Tryz.func58, Tryz.ntmps58
      go_wp2_with (go_at_call 46; (with_reducible refine HL.out.mono ?_); rintro e w1 ⟨rfl, rfl⟩)
      go_ret2
      exact ⟨rfl, rfl⟩
    · have hp : 0 < L.length := by omega
      have c0 : w.cell? ⟨g, 0, none⟩ = some (.string (str (L.getD 0 []))) := h5 0 hp
      rw [decide_eq_true hp]
      unfold sV
      generalize str (L.getD 0 []) = x at *
      generalize L.length = N at *
      have b0 : ((N : Int) == 0) = false := by rw [beq_eq_false_iff_ne]; omega
      clear h h5
      go_enter Tryz.func58, Tryz.ntmps58
      go_wp2_with (go_at_call 46; (with_reducible refine HL.out.mono ?_); rintro e w1 ⟨rfl, rfl⟩)
      go_ret2
      exact ⟨rfl, rfl⟩
end Go.Proofs.YtnhlachoimlhhaaGreatDoor

namespace Go.Proofs.YtnhlachoimlhhaaGreatDoor
open Go.ChangeShapes Go.WideShapes Go.ChangeAt Go.RowKit
set_option linter.unusedVariables false
set_option linter.unusedSimpArgs false

theorem infoStrQ : (Tryz.prog.info? 9).map (fun i => (i.zero, i.size, i.bytes)) = some (some (.string ⟨#[]⟩), 1, 16) := by kernel_rfl
/-- append of one text, literal. -/
theorem wp_txA {ops : Array Oper} {rest : List Oper} {o : Oper} {a : Act} {Q : Exit → Act → World → Prop} (hgd : o.guard = none) (s x : Operand)
    (ho : o.op = .call { callee := .builtin .append, args := #[s, x], argTypes := #[91, 91] })
    (v : Value) (L : List (List UInt8)) (hs : a.eval s = v) (w0 w1 : World) (p : List UInt8) (hw : w1 = w0.alloc (.cells #[.string (str p)] 9)) (hb : TxRow v L w0) (H : Nat) (hH : w0.heap.size = H)
    (hx : a.eval x = .slice (some ⟨H, 0, none⟩) 1 1) (hlen : L.length ≤ 1073741824)
    (h : ∀ g cap w', TxRow (.slice (some ⟨g, 0, none⟩) (L.length + 1) cap) (L ++ [p]) w' → Kept (ownB v) w0 w' → (v.ownBlock = some g ∨ g = H + 1) → wpList Tryz.prog ops Q rest (a.put o.dst (.slice (some ⟨g, 0, none⟩) (L.length + 1) cap)) w') : wpList Tryz.prog ops Q (o :: rest) a w1 := by
  obtain ⟨i0, hi, hz0, hz1, hz2⟩ := info_parts infoStrQ
  subst hH hw
  have hb' : TxRow v L (w0.alloc (.cells #[.string (str p)] 9)) := hb.kept (S := []) ((Kept.refl [] w0).alloc _) (fun _ _ h => by cases h)
  refine wpList_append_own_at _ hgd s x 91 ho 0 9 i0 (.string ⟨#[]⟩) 1 16 Tryz.underlying91 hi hz0 hz1 hz2 rfl (by decide) v L.length (L.map sV) hs hb' ⟨w0.heap.size, 0, none⟩ 1 1 [.string (str p)] hx rfl (cell_one_new w0 (.string (str p)) 9) (by intro u hu; simp at hu; rw [hu]; rfl) (by unfold maxLen; omega) (by omega) (Nat.zero_le _) ?_
  intro v' w' ho' hg hnil hat
  have ht : TxRow v' (L ++ [p]) w' := by
    unfold TxRow
    rw [List.length_append, List.map_append]
    exact ho'
  rcases ht.shape with ⟨e, _⟩ | ⟨g, cap, rfl, _⟩
  · exact absurd e (by simp)
  · have hl : (L ++ [p]).length = L.length + 1 := by simp
    rw [hl] at ht ⊢
    refine h g cap w' ht (((Kept.refl (ownB v) w0).alloc _).grown hg (fun k hk => .inl (mem_ownB.2 hk))) ?_
    rcases hat with hat | hat
    · exact .inl (by rw [← hat]; rfl)
    · have e : g = (w0.alloc (.cells #[.string (str p)] 9)).heap.size := by simpa [Value.ownBlock] using hat
      exact .inr (by rw [e]; simp)
def quPut (M : Nat) (L : List (List UInt8)) (d : List UInt8) : Int := if 1400 < d.length then 13 else if M ≤ L.length then 9 else 0
end Go.Proofs.YtnhlachoimlhhaaGreatDoor

namespace Go.Proofs.YtnhlachoimlhhaaGreatDoor
open Go.ChangeShapes Go.WideShapes Go.ChangeAt Go.RowKit
set_option linter.unusedVariables false
set_option linter.unusedSimpArgs false

set_option maxHeartbeats 2000000 in
set_option maxRecDepth 100000 in
theorem quPut_yes (M : Nat) (hM : M ≤ 50) (L : List (List UInt8)) (d : List UInt8) (hd : d.length ≤ 9223372036854775807) (hp : quPut M L d = 0) (v : Value) (C : Nat) (w : World) (h : QuAt M L v C w) :
    Calls Tryz.prog 45 #[.pointer (some ⟨C, 0, none⟩), .string (str d)] w fun e w' => e = .returned (.int .i64 0) ∧ ∃ v', QuAt M (L ++ [d]) v' C w' ∧ Kept (C :: ownB v) w w' ∧ (∀ g, v'.ownBlock = some g → v.ownBlock = some g ∨ w.heap.size ≤ g) := by
  have hsz : (str d).size = d.length := rfl
  unfold quPut at hp
  have h1 : ¬ 1400 < d.length := fun e => by rw [if_pos e] at hp; cases hp
  rw [if_neg h1] at hp
  have h2 : ¬ M ≤ L.length := fun e => by rw [if_pos e] at hp; cases hp
  clear hp
  have c0 : w.cell? ⟨C, 0, none⟩ = some (.int .i64 (M : Int)) := BlkIs.cell h.blk 0
  have c1 : w.cell? ⟨C, 1, none⟩ = some v := BlkIs.cell h.blk 1
  have hne := h.ne
  have HNE := Lib.hid hne
  have HB := Lib.hid h.blk
  have HR := Lib.hid h.row
  obtain ⟨p, cap, rfl⟩ := h.row.len
  obtain ⟨x, hx⟩ : ∃ x, str d = x := ⟨_, rfl⟩
  have HX := Lib.hid hx
  rw [hx] at hsz ⊢
  have d1 : decide ((1400 : Int) < (x.size : Int)) = false := decide_eq_false (by omega)
  have d2 : decide ((M : Int) ≤ (L.length : Int)) = false := decide_eq_false (by omega)
  have HLN : Hid (L.length ≤ 1073741824) := Lib.hid (by omega)
  obtain ⟨N, hN⟩ : ∃ N, L.length = N := ⟨_, rfl⟩
  rw [hN] at c1 d2 HNE HR HB ⊢
  have d2n : decide (M ≤ N) = false := decide_eq_false (by omega)
  have d1n : decide (1400 < x.size) = false := decide_eq_false (by omega)
  have hxs : x.size ≤ 1400 := by omega
  clear h hx hne hN hsz h1 h2 hd
  go_enter Tryz.func45, Tryz.ntmps45
  go_upto_region 5 with fail
  go_quiet (fail)
  go_upto_region 7 with fail
  have HBW : Hid (BlkIs #[.int .i64 (M : Int), .slice p N cap] 135 C (w.drewN nq)) := Lib.hid (HB.out.drewN nq)
  have HKW : Hid (Kept [] w (w.drewN nq)) := Lib.hid ((Kept.refl [] w).drewN nq)
  have HRW : Hid (TxRow (.slice p N cap) L (w.drewN nq)) := Lib.hid (HR.out.kept HKW.out (fun _ _ h => by cases h))
  clear c0 c1 HB HR
  generalize w.drewN nq = W at *
  have b1 := BlkIs.cell HBW.out 1
  have b1' : W.cell? ⟨C, 1, none⟩ = some (.slice p N cap) := b1
  have e0 := BlkIs.free HBW.out 1
  clear b1
  go_wp2_with (at_builtin; refine wp_txA rfl _ _ rfl (.slice p N cap) L rfl W _ d (by rw [HX.out]) HRW.out _ rfl rfl HLN.out ?_; intro g2 cap2 w9 ho9 hk9 hat9; have hB9 := BlkIs.kept HBW.out hk9 (fun hm => HNE.out (mem_ownB.1 hm)); have b9 : w9.cell? ⟨C, 1, none⟩ = some (.slice p N cap) := BlkIs.cell hB9 1; have f9 := BlkIs.free hB9 1; have HB9 := Lib.hid hB9; have HO9 := Lib.hid ho9; have HK9 := Lib.hid hk9; have HA9 := Lib.hid hat9; clear hB9 ho9 hk9 hat9)
  go_ret
  have hsz9 := HK9.out.size
  have hszw := HKW.out.size
  have hv2 : g2 ≠ C := fun e => by
    rcases HO9.out.2 with ⟨e2, _⟩ | ⟨a, cp, cur, e2, _, ha, _⟩
    · cases e2
    · injection e2 with e2
      injection e2 with e2
      injection e2 with e2
      have hb := HB9.out
      unfold BlkIs at hb
      rw [← e2, e, hb] at ha
      injection ha with ha
      injection ha with _ ha _
      exact absurd ha (by decide)
  refine ⟨rfl, _, ⟨BlkIs.set HB9.out 1 _, HO9.out.kept ((Kept.refl [C] w9).setCell (.inl (by simp)) _) (fun q hq hm => ?_)⟩, ((HKW.out.more (fun x hx => by cases hx)).trans' (HK9.out.more (fun x hx => List.mem_cons_of_mem _ hx))).setCell (.inl (by simp)) _, fun g hg => ?_⟩
  · have e : g2 = q := by simpa [Value.ownBlock] using hq
    rw [List.mem_singleton.1 hm] at e
    exact hv2 e
  · have e : g2 = g := by simpa [Value.ownBlock] using hg
    rw [← e]
    rcases HA9.out with h | h
    · exact .inl h
    · exact .inr (by omega)
set_option maxHeartbeats 2000000 in
theorem quNew_yes (m : Nat) (h1 : 1 ≤ m) (h2 : m ≤ 50) (w : World) :
    Calls Tryz.prog 48 #[.int .i64 (m : Int)] w fun e w' => e = .returned (.pointer (some ⟨w.heap.size, 0, none⟩)) ∧ QuAt m [] (.slice none 0 0) w.heap.size w' ∧ Below w.heap.size w w' := by
  have d1 : decide ((m : Int) < 1) = false := decide_eq_false (by omega)
  have d2 : decide ((50 : Int) < (m : Int)) = false := decide_eq_false (by omega)
  go_enter Tryz.func48, Tryz.ntmps48
  go_wp2
  go_ret
  exact ⟨rfl, ⟨BlkIs.new _ _ w, TxRow.nil _⟩, bel_alloc _ _⟩
end Go.Proofs.YtnhlachoimlhhaaGreatDoor
