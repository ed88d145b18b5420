/-
  Package got: slices.Repeat of one three, in general; lost.
  slices.Insert of a row of threes at the head of a row of ints, with room and without.
  Package got: what was got, in general (GotR); isForgotten, age, isThere, trim.
  Package got: lead, in general.
  Package got: Put, Has, Cells, in general.
  append of a row of threes to a row of ints; got.fill.
  Package got: Put that fills; Cells, over what was got in general.
  Package got: Forget, for the first time.
-/
import Derived.Test.YtkpginmdnlhfbaaGreatDoorGtM
import Derived.Deep.OwnRows
import Derived.Lib.LazyBuf
namespace Go.Proofs.YtkpginmdnlhfbaaGreatDoor
open Go.ChangeShapes Go.WideShapes Go.ChangeAt Go.RowKit
set_option linter.unusedVariables false
set_option linter.unusedSimpArgs false

/-- The first m are threes, the others 0. -/
def fN (m j : Nat) : Value := .int .i64 (if j < m then 3 else 0)
theorem infoGtN : (Tryz.prog.info? 3).map (fun i => (i.zero, i.size, i.bytes)) = some (some (.int .i64 0), 1, 8) := by kernel_rfl
structure RepAt (n m g : Nat) (w0 w : World) : Prop where
  row : w.rowIs g 3 n (fN m)
  bel : Below g w0 w
theorem RepAt.step {n m g k : Nat} {w0 w : World} (h : RepAt n m g w0 w) (hk : m + k ≤ n) : RepAt n (m + k) g w0 (w.setCells g m (List.replicate k (.int .i64 3))) :=
  ⟨(Go.rowIs_setCells _ m w _ h.row).congr (fun j hj => by
    simp only [List.length_replicate]
    by_cases hc : m ≤ j ∧ j < m + k
    · rw [if_pos hc, List.getElem?_replicate, if_pos (by omega)]
      unfold fN
      rw [if_pos (by omega)]
      try rfl
    · rw [if_neg hc]
      unfold fN
      by_cases h1 : j < m
      · rw [if_pos h1, if_pos (by omega)]
      · rw [if_neg h1, if_neg (by omega)]), Go.below_setCells (Nat.le_refl _) _ _ _ h.bel⟩
theorem RepAt.drewN {n m g : Nat} {w0 w : World} (h : RepAt n m g w0 w) (k : Nat) : RepAt n m g w0 (w.drewN k) := ⟨h.row, ⟨h.bel.os, h.bel.tape, h.bel.output, h.bel.size, h.bel.block⟩⟩
theorem repCopy {n m g : Nat} {w0 w : World} (h : RepAt n m g w0 w) (h1 : 1 ≤ m) (h2 : m ≤ n) (k : Nat) (hk : min m (n - m) = k) (ty : TypeId) (dc sc : Nat) :
    (Builtin.copy_ #[23, 23] ty #[.slice (some ⟨g, m, none⟩) (n - m) dc, .slice (some ⟨g, 0, none⟩) m sc]).run Tryz.prog w = .ok (.int .i64 (k : Int)) (w.setCells g m (List.replicate k (.int .i64 3))) := by
  have hsz : (Tryz.prog.info? 3).map (·.size) = some 1 := by kernel_rfl
  have hr := run_copy_cells (P := Tryz.prog) w 23 23 ty 3 g m (n - m) dc ⟨g, 0, none⟩ m sc (List.replicate k (.int .i64 3)) Tryz.underlying23 hsz (by rw [List.length_replicate, ← hk])
    (fun j v hj => by
      rw [List.getElem?_replicate] at hj
      split at hj
      · cases hj
        rw [show (⟨g, 0, none⟩ : Addr).add j = ⟨g, j, none⟩ from by simp [Addr.add]; exact fun h => h.symm]
        rw [h.row.cell (by omega)]
        unfold fN
        rw [if_pos (by omega)]
      · cases hj)
    (fun j hj => by
      rw [List.length_replicate] at hj
      rw [h.row.cell (by omega)]; rfl) (fun j hj => h.row.frozen _) (by intro v hv; rw [List.eq_of_mem_replicate hv]; rfl)
  rw [List.length_replicate] at hr
  exact hr
set_option maxRecDepth 100000 in
theorem repeat_any (b : Nat) (n : Nat) (hn : 1 ≤ n) (hn2 : n ≤ 1000) (w : World) (hb : w.cell? ⟨b, 0, none⟩ = some (.int .i64 3)) :
    Calls Tryz.prog 127 #[.slice (some ⟨b, 0, none⟩) 1 1, .int .i64 n] w fun e w' => e = .returned (.slice (some ⟨w.heap.size, 0, none⟩) n n) ∧ RepAt n n w.heap.size w w' := by
  have HM : Hid (∀ W, Calls Tryz.prog 162 #[.int .u64 1, .int .u64 n] W fun e w' => e = .returned (.tuple #[.int .u64 0, .int .u64 n]) ∧ W = w') := Lib.hid (fun W => by
    have h := Tryz.bits_Mul 1 n (by decide) (by omega) W
    rw [show 1 * n / 18446744073709551616 = 0 by omega, show 1 * n % 18446744073709551616 = n by omega] at h
    exact h.mono (by rintro e w' ⟨rfl, rfl⟩; exact ⟨rfl, rfl⟩))
  have hlt : b < w.heap.size := World.block_lt_of_cell? w _ hb
  obtain ⟨i0, hi0, hz0, hzs, hzb⟩ := info_parts infoGtN
  have hmk : (Instr.makeSlice 23 (.int .i64 n) (.int .i64 n)).run Tryz.prog w = .ok (.slice (some ⟨w.heap.size, 0, none⟩) n n) (w.alloc (.cells (madeCells #[.int .i64 0] n) 3)) := by
    have h := run_make (P := Tryz.prog) w 23 3 i0 (.int .i64 0) Tryz.underlying23 hi0 hz0 .i64 .i64 n n (by omega) (by omega) (by rw [hzb]; omega) (by omega)
    rw [hzs] at h
    simpa [Value.cells] using h
  have hb0 := World.rowIs_made w (.int .i64 0) n 3
  have hb1 : (w.alloc (.cells (madeCells #[.int .i64 0] n) 3)).cell? ⟨b, 0, none⟩ = some (.int .i64 3) := by rw [(bel_alloc w _).cell (p := ⟨b, 0, none⟩) hlt]; exact hb
  have HBel := Lib.hid (bel_alloc w (.cells (madeCells #[.int .i64 0] n) 3))
  obtain ⟨g, hg⟩ : ∃ g, w.heap.size = g := ⟨_, rfl⟩
  obtain ⟨W1, hW1⟩ : ∃ W1, w.alloc (.cells (madeCells #[.int .i64 0] n) 3) = W1 := ⟨_, rfl⟩
  rw [hW1, hg] at hmk hb0 HBel
  rw [hW1] at hb1
  rw [hg]
  have hR0 : RepAt n 0 g w W1 := ⟨hb0.congr (fun j _ => by unfold fN; rw [if_neg (by omega)]), HBel.out⟩
  have hsz : (Tryz.prog.info? 3).map (·.size) = some 1 := by kernel_rfl
  have hcpA : ∀ ty dc sc, (Builtin.copy_ #[23, 23] ty #[.slice (some ⟨g, 0, none⟩) n dc, .slice (some ⟨b, 0, none⟩) 1 sc]).run Tryz.prog W1 = .ok (.int .i64 1) (W1.setCells g 0 [.int .i64 3]) := fun ty dc sc =>
    run_copy_cells W1 _ _ ty 3 g 0 n dc ⟨b, 0, none⟩ 1 sc [.int .i64 3] Tryz.underlying23 hsz (by show 1 = min 1 n; omega)
      (fun j v hj => by
        rcases j with _ | j
        · cases hj; exact hb1
        · cases hj)
      (fun j hj => by
        obtain rfl : j = 0 := by simpa using hj
        rw [hb0.cell (by omega)]; rfl) (fun j hj => hb0.frozen _) (by intro v hv; simp at hv; subst hv; rfl)
  have hR1 : RepAt n (0 + 1) g w (W1.setCells g 0 (List.replicate 1 (.int .i64 3))) := hR0.step (by omega)
  rw [Nat.zero_add] at hR1
  have HR1 := Lib.hid hR1
  clear hR1 hR0 hb0 hb1 HBel hb hlt hW1 hsz hi0 hz0 hzs hzb
  obtain ⟨W2, hW2⟩ : ∃ W2, W1.setCells g 0 [.int .i64 3] = W2 := ⟨_, rfl⟩
  rw [show List.replicate 1 (Value.int .i64 3) = [.int .i64 3] from rfl, hW2] at HR1
  rw [hW2] at hcpA
  clear hW2
  have mixed : Tryz.prog.follows .mixedOrders = true := by kernel_rfl
  have hnw : IntKind.u64.wrap (n : Int) = (n : Int) := IntWalk.u64_in _ (by omega)
  have hnw2 : IntKind.i64.wrap (n : Int) = (n : Int) := by rw [IntKind.wrap_i64]; omega
  have i1 : decide ((n : Int) < 0) = false := decide_eq_false (by omega)
  have i2 : decide ((9223372036854775807 : Int) < (n : Int)) = false := decide_eq_false (by omega)
  go_enter Tryz.func127, Tryz.ntmps127
  go_wp2_with (first
    | (go_at_call 162; (refine (HM.out _).mono ?_); rintro e w1 ⟨rfl, rfl⟩)
    | (at_builtin; refine wpList_copy_runI _ rfl _ _ 23 23 rfl _ _ rfl rfl (hcpA _ _ _) ?_))
  clear hcpA hmk HM
  go_loopw [8] (fun i wr => ∃ m : Nat, i = .int .i64 (m : Int) ∧ 1 ≤ m ∧ m ≤ n ∧ Hid (RepAt n m g w wr)) (fun i _ => n - (intOf i).toNat)
  case atStart => exact ⟨1, rfl, Nat.le_refl _, hn, HR1⟩
  case round =>
    clear HR1
    obtain ⟨m, rfl, m1, m2, hr⟩ := hrel
    by_cases hmn : m < n
    · have i3 : decide ((m : Int) < (n : Int)) = true := decide_eq_true (by omega)
      obtain ⟨k, hk⟩ : ∃ k, min m (n - m) = k := ⟨_, rfl⟩
      have hkb : 1 ≤ k ∧ m + k ≤ n := by omega
      have HCP := Lib.hid (fun ty dc sc => repCopy (hr.out.drewN 1) m1 m2 k hk ty dc sc)
      go_wp2
      go_region_law_o (refine step_copy_runI rfl _ _ 23 23 rfl (.slice (some ⟨g, m, none⟩) (n - m) (n - m)) (.slice (some ⟨g, 0, none⟩) m n) (by simp [Act.eval, Act.put]; try omega) (by simp [Act.eval, Act.put]) (HCP.out 3 (n - m) n) ?_)
      obtain ⟨x, hx⟩ : ∃ x, IntKind.i64.wrap ((m : Int) + (k : Int)) = x := ⟨_, rfl⟩
      have hxk : x = ((m + k : Nat) : Int) := by rw [← hx, IntKind.wrap_i64]; omega
      refine ⟨⟨.int .i64 (IntKind.i64.wrap ((m : Int) + (k : Int))), _, _, _, _, _, _, _, _, _, _, _, _, _, ?h, rfl⟩, ?m⟩
      case h =>
        rw [hx, hxk]
        exact ⟨m + k, rfl, by omega, hkb.2, Lib.hid ((hr.out.drewN 1).step hkb.2)⟩
      case m =>
        rw [hx, hxk]
        simp only [Act.put, List.getElem_toArray, List.getElem_cons_succ, List.getElem_cons_zero]
        simp [intOf]
        omega
    · have i3 : decide ((m : Int) < (n : Int)) = false := decide_eq_false (by omega)
      obtain rfl : m = n := by omega
      go_wp2
      go_ret
      exact ⟨rfl, hr.out⟩
theorem gotLost_any (n : Nat) (hn : 1 ≤ n) (hn2 : n ≤ 1000) (w : World) : Calls Tryz.prog 98 #[.int .i64 n] w fun e w' => ∃ g, e = .returned (.slice (some ⟨g, 0, none⟩) n n) ∧ w'.rowIs g 3 n (fun _ => .int .i64 3) ∧ w.heap.size ≤ g ∧ Below w.heap.size w w' := by
  have HR := Lib.hid (repeat_any w.heap.size n hn hn2 (w.alloc (.cells #[.int .i64 3] 3)) ((BlkIs.new #[.int .i64 3] 3 w).cell 0))
  have hnw2 : IntKind.i64.wrap (n : Int) = (n : Int) := by rw [IntKind.wrap_i64]; omega
  go_enter Tryz.func98, Tryz.ntmps98
  go_wp2_with (go_at_call 127; (with_reducible refine HR.out.mono ?_); rintro e w1 ⟨rfl, h1⟩)
  go_ret
  have := (bel_alloc w (.cells #[.int .i64 3] 3)).size
  rw [show (w.alloc (.cells #[.int .i64 3] 3)).heap.size = w.heap.size + 1 by simp] at h1
  refine ⟨w.heap.size + 1, rfl, h1.row.congr (fun j hj => by unfold fN; rw [if_pos hj]), by omega, ?_⟩
  exact bel_trans (bel_alloc _ _) (by simpa using h1.bel)
end Go.Proofs.YtkpginmdnlhfbaaGreatDoor

namespace Go.Proofs.YtkpginmdnlhfbaaGreatDoor
open Go.ChangeShapes Go.WideShapes Go.ChangeAt Go.RowKit
set_option linter.unusedVariables false
set_option linter.unusedSimpArgs false

/-- A block of ints, as long as its capacity: l at its head. -/
structure RowR (g cap : Nat) (l : List Int) (w : World) : Prop where
  row : ∃ f, w.rowIs g 3 cap f ∧ ∀ i v, l[i]? = some v → f i = .int .i64 v
  cap1 : l.length ≤ cap
  cap2 : cap ≤ 9223372036854775807
theorem RowR.cell {g cap : Nat} {l : List Int} {w : World} (h : RowR g cap l w) (i : Nat) (v : Int) (hv : l[i]? = some v) : w.cell? ⟨g, i, none⟩ = some (.int .i64 v) := by
  obtain ⟨f, h1, h2⟩ := h.row
  have hi := (List.getElem?_eq_some_iff.1 hv).1
  rw [h1.cell (by have := h.cap1; omega), h2 i v hv]
theorem RowR.kept {g cap : Nat} {l : List Int} {S : List Nat} {w w' : World} (h : RowR g cap l w) (k : Kept S w w') (hn : g ∉ S) : RowR g cap l w' := by
  obtain ⟨f, h1, h2⟩ := h.row
  exact ⟨⟨f, h1.of_block (k.block g h1.lt hn), h2⟩, h.cap1, h.cap2⟩
theorem rowIs_shape {w : World} {b : Nat} {t : TypeId} {n : Nat} {f : Nat → Value} (h : w.rowIs b t n f) : w.shape? b = some (t, n) := by
  obtain ⟨c, h1, h2, _⟩ := h
  unfold World.shape?
  rw [h1]
  simp [h2]
theorem kept_setCells (S : List Nat) {a : World} (b : Nat) (hb : b ∈ S ∨ a.heap.size ≤ b) : ∀ (vs : List Value) (o : Nat) (w : World), Kept S a w → Kept S a (w.setCells b o vs)
  | [], _, _, h => h
  | v :: r, o, w, h => kept_setCells S b hb r (o + 1) _ (h.setCell (p := ⟨b, o, none⟩) hb v)
theorem insert_any (l : List Int) (hl : 1 ≤ l.length) (hl2 : l.length ≤ 1000) (k : Nat) (hk : 1 ≤ k) (hk2 : k ≤ 1000) (b c v : Nat) (w : World) (hr : RowR b c l w) (hv : w.rowIs v 3 k (fun _ => .int .i64 3)) (hne : v ≠ b) :
    Calls Tryz.prog 97 #[.slice (some ⟨b, 0, none⟩) l.length c, .int .i64 0, .slice (some ⟨v, 0, none⟩) k k] w fun e w' => ∃ g' c', e = .returned (.slice (some ⟨g', 0, none⟩) (l.length + k) c') ∧ RowR g' c' (List.replicate k 3 ++ l) w' ∧ (g' = b ∨ w.heap.size ≤ g') ∧ Kept [b] w w' := by
  have hcs : ∀ j u, (l.map (Value.int .i64))[j]? = some u → w.cell? ⟨b, 0 + j, none⟩ = some u := fun j u hj => by
    rw [List.getElem?_map] at hj
    obtain ⟨x, hx, rfl⟩ := Option.map_eq_some_iff.1 hj
    rw [Nat.zero_add]
    exact hr.cell j x hx
  have hvs : ∀ j u, (List.replicate k (Value.int .i64 3))[j]? = some u → w.cell? ⟨v, 0 + j, none⟩ = some u := fun j u hj => by
    rw [List.getElem?_replicate] at hj
    split at hj
    · rename_i hj2
      cases hj
      rw [Nat.zero_add]
      exact hv.cell hj2
    · cases hj
  have h1c : ∀ u ∈ l.map (Value.int .i64), u.oneCell' = true := fun u hu => by
    obtain ⟨x, _, rfl⟩ := List.mem_map.1 hu
    rfl
  have h1v : ∀ u ∈ List.replicate k (Value.int .i64 3), u.oneCell' = true := fun u hu => by rw [List.eq_of_mem_replicate hu]; rfl
  have hlen : ∀ i u, (List.replicate k (3 : Int) ++ l)[i]? = some u → (i < k ∧ u = 3) ∨ (k ≤ i ∧ i < k + l.length ∧ l[i - k]? = some u) := fun i u hu => by
    by_cases hik : i < k
    · left
      rw [List.getElem?_append_left (by rw [List.length_replicate]; exact hik), List.getElem?_replicate, if_pos hik] at hu
      cases hu
      exact ⟨hik, rfl⟩
    · right
      rw [List.getElem?_append_right (by rw [List.length_replicate]; omega), List.length_replicate] at hu
      have := (List.getElem?_eq_some_iff.1 hu).1
      exact ⟨by omega, by omega, hu⟩
  obtain ⟨f, hf1, hf2⟩ := hr.row
  have hcap1 := hr.cap1
  have hcap2 := hr.cap2
  by_cases hroom : l.length + k ≤ c
  · have h := Any2.slices_Insert_int_shift (ρ := laysIns_ren) laysIns b 0 l.length c 0 v 0 k k (l.map (Value.int .i64)) (List.replicate k (.int .i64 3)) w (by omega) (by omega) hroom hcap2 hne (by rw [List.length_map]) (by rw [List.length_replicate]) hcs
      (fun j hj => by rw [Nat.zero_add, hf1.cell (by omega)]; rfl) (fun j _ => hf1.frozen _) hvs h1c h1v 3 3 k c (rowIs_shape hv) (rowIs_shape hf1) (by omega) (hv.frozen _) (hv.frozen _)
    refine Calls.mono (show Calls Tryz.prog 97 _ w _ from h) ?_
    rintro e w' ⟨rfl, rfl⟩
    rw [List.drop_zero]
    have r1 := Go.rowIs_setCells (l.map (Value.int .i64)) (0 + (0 + k)) w.drew f hf1.drew
    have r2 := Go.rowIs_setCells (List.replicate k (Value.int .i64 3)) (0 + 0) _ _ r1
    refine ⟨b, c, rfl, ⟨⟨_, r2, fun i u hu => ?_⟩, by rw [List.length_append, List.length_replicate]; omega, hcap2⟩, .inl rfl, kept_setCells [b] b (.inl (by simp)) _ _ _ (kept_setCells [b] b (.inl (by simp)) _ _ _ (Kept.refl [b] w).drew)⟩
    rcases hlen i u hu with ⟨h1, rfl⟩ | ⟨h1, h2, h3⟩
    · simp only [List.length_replicate]
      rw [if_pos (by omega), List.getElem?_replicate, if_pos (by omega)]
      rfl
    · simp only [List.length_replicate, List.length_map]
      rw [if_neg (by omega), if_pos (by omega), List.getElem?_map, show i - (0 + (0 + k)) = i - k by omega, h3]
      rfl
  · have h := Any2.slices_Insert_int_grow (ρ := laysIns_ren) laysIns b 0 l.length c 0 v 0 k k (l.map (Value.int .i64)) (List.replicate k (.int .i64 3)) w (by omega) (by omega) hcap1 (by omega) (by omega) (by rw [List.length_map]) (by rw [List.length_replicate]) hcs hvs h1c h1v
    refine Calls.mono (show Calls Tryz.prog 97 _ w _ from h) ?_
    rintro e w' ⟨rfl, rfl⟩
    have g1 := grownCap_ge w (l.length + k) c (laysIns_ren.t 3)
    have g2 := grownCap_le_maxLen w (l.length + k) c (laysIns_ren.t 3) (by unfold maxLen; omega)
    unfold maxLen at g2
    rw [show laysIns_ren.t 3 = 3 from rfl] at *
    generalize grownCap w (l.length + k) c 3 = G at *
    obtain ⟨A, hA⟩ : ∃ A, ((l.map (Value.int .i64)).take 0).toArray ++ Builtin.zeroCells (Value.int .i64 0).cells (l.length + k - 0) ++ Builtin.zeroCells (Value.int .i64 0).cells (G - (l.length + k)) = A := ⟨_, rfl⟩
    have hAs : A.size = G := by
      rw [← hA]
      simp [Builtin.zeroCells, Value.cells]
      omega
    rw [hA, List.drop_zero]
    have r0 : (w.alloc (.cells A 3)).rowIs w.heap.size 3 G (fun i => A[i]?.getD default) := by
      have := World.rowIs_alloc w A 3 (fun i => A[i]?.getD default) (fun i hi => by rw [Array.getElem?_eq_getElem hi]; rfl)
      rw [hAs] at this
      exact this
    have r1 := Go.rowIs_setCells (List.replicate k (Value.int .i64 3)) 0 _ _ r0.drew
    have r2 := Go.rowIs_setCells (l.map (Value.int .i64)) (0 + k) _ _ r1.drew
    refine ⟨w.heap.size, G, rfl, ⟨⟨_, r2, fun i u hu => ?_⟩, by rw [List.length_append, List.length_replicate]; omega, by omega⟩, .inr (Nat.le_refl _), kept_setCells [b] _ (.inr (Nat.le_refl _)) _ _ _ (kept_setCells [b] _ (.inr (Nat.le_refl _)) _ _ _ ((Kept.refl [b] w).alloc _).drew).drew⟩
    rcases hlen i u hu with ⟨h1, rfl⟩ | ⟨h1, h2, h3⟩
    · simp only [List.length_replicate, List.length_map]
      rw [if_neg (by omega), if_pos (by omega), List.getElem?_replicate, if_pos (by omega)]
      rfl
    · simp only [List.length_replicate, List.length_map]
      rw [if_pos (by omega), List.getElem?_map, show i - (0 + k) = i - k by omega, h3]
      rfl
end Go.Proofs.YtkpginmdnlhfbaaGreatDoor

namespace Go.Proofs.YtkpginmdnlhfbaaGreatDoor
open Go.ChangeShapes Go.WideShapes Go.ChangeAt Go.RowKit
set_option linter.unusedVariables false
set_option linter.unusedSimpArgs false

/-- What was got: the newest n, the states l, the furthest that was forgotten, whether one was. -/
def gotCellsR (n : Nat) (v : Value) (fu : Nat) (fo : Bool) : Array Value := #[.int .u64 n, v, .int .u64 fu, .bool fo]
structure GotR (n : Nat) (l : List Int) (fu : Nat) (fo : Bool) (C g cap : Nat) (w : World) : Prop where
  blk : BlkIs (gotCellsR n (.slice (some ⟨g, 0, none⟩) l.length cap) fu fo) 91 C w
  row : RowR g cap l w
  ne : g ≠ C
theorem RowR.lt {g cap : Nat} {l : List Int} {w : World} (h : RowR g cap l w) : g < w.heap.size := by
  obtain ⟨f, h1, _⟩ := h.row
  exact h1.lt
theorem RowR.free {g cap : Nat} {l : List Int} {w : World} (h : RowR g cap l w) (i : Nat) : w.frozen? ⟨g, i, none⟩ = false := by
  obtain ⟨f, h1, _⟩ := h.row
  exact h1.frozen i
theorem RowR.take {g cap : Nat} {l : List Int} {w : World} (h : RowR g cap l w) (m : Nat) : RowR g cap (l.take m) w := by
  obtain ⟨f, h1, h2⟩ := h.row
  exact ⟨⟨f, h1, fun i v hv => h2 i v (by rw [List.getElem?_take] at hv; split at hv; exact hv; cases hv)⟩, by rw [List.length_take]; have := h.cap1; omega, h.cap2⟩
theorem RowR.set {g cap : Nat} {l : List Int} {w : World} (h : RowR g cap l w) (k : Nat) (v : Int) : RowR g cap (l.set k v) (w.setCell ⟨g, k, none⟩ (.int .i64 v)) := by
  obtain ⟨f, h1, h2⟩ := h.row
  refine ⟨⟨_, h1.set k _, fun i u hu => ?_⟩, by rw [List.length_set]; exact h.cap1, h.cap2⟩
  rw [List.getElem?_set] at hu
  by_cases e : k = i
  · rw [if_pos e] at hu
    split at hu
    · cases hu; rw [if_pos e.symm]
    · cases hu
  · rw [if_neg e] at hu
    rw [if_neg (fun h => e h.symm)]
    exact h2 i u hu
theorem RowR.far {g cap : Nat} {l : List Int} {w : World} (h : RowR g cap l w) {p : Addr} (hp : g ≠ p.block) (v : Value) : RowR g cap l (w.setCell p v) := by
  obtain ⟨f, h1, h2⟩ := h.row
  exact ⟨⟨f, h1.setOther hp v, h2⟩, h.cap1, h.cap2⟩
theorem GotR.kept {n : Nat} {l : List Int} {fu : Nat} {fo : Bool} {C g cap : Nat} {S : List Nat} {w w' : World} (h : GotR n l fu fo C g cap w) (k : Kept S w w') (h1 : C ∉ S) (h2 : g ∉ S) : GotR n l fu fo C g cap w' := ⟨h.blk.kept k h1, h.row.kept k h2, h.ne⟩
theorem GotR.below {n : Nat} {l : List Int} {fu : Nat} {fo : Bool} {C g cap : Nat} {w w' : World} (h : GotR n l fu fo C g cap w) (k : Below w.heap.size w w') : GotR n l fu fo C g cap w' := h.kept (Kept.of_below [] k) (by simp) (by simp)
theorem GotR.drewN {n : Nat} {l : List Int} {fu : Nat} {fo : Bool} {C g cap : Nat} {w : World} (h : GotR n l fu fo C g cap w) (k : Nat) : GotR n l fu fo C g cap (w.drewN k) := h.below (bel_drewN w k)
theorem GotR.setSlice {n : Nat} {l : List Int} {fu : Nat} {fo : Bool} {C g cap : Nat} {w : World} (h : GotR n l fu fo C g cap w) (g2 cap2 : Nat) (l2 : List Int) (hr : RowR g2 cap2 l2 w) (hne : g2 ≠ C) : GotR n l2 fu fo C g2 cap2 (w.setCell ⟨C, 1, none⟩ (.slice (some ⟨g2, 0, none⟩) l2.length cap2)) :=
  ⟨h.blk.set 1 _, hr.far hne _, hne⟩
theorem GotR.setNewest {n : Nat} {l : List Int} {fu : Nat} {fo : Bool} {C g cap : Nat} {w : World} (h : GotR n l fu fo C g cap w) (m : Nat) : GotR m l fu fo C g cap (w.setCell ⟨C, 0, none⟩ (.int .u64 m)) :=
  ⟨h.blk.set 0 _, h.row.far h.ne _, h.ne⟩
theorem GotR.setState {n : Nat} {l : List Int} {fu : Nat} {fo : Bool} {C g cap : Nat} {w : World} (h : GotR n l fu fo C g cap w) (k : Nat) (v : Int) : GotR n (l.set k v) fu fo C g cap (w.setCell ⟨g, k, none⟩ (.int .i64 v)) :=
  ⟨by rw [List.length_set]; exact h.blk.far (fun e => h.ne e.symm) _, h.row.set k v, h.ne⟩
theorem gotForg_any (n : Nat) (v : Value) (fu : Nat) (fo : Bool) (s : Nat) (hf : fu < 18446744073709551616) (hs : s < 18446744073709551616) (C : Nat) (w : World) (h : BlkIs (gotCellsR n v fu fo) 91 C w) :
    Calls Tryz.prog 57 #[.pointer (some ⟨C, 0, none⟩), .int .u64 s] w fun e w' => e = .returned (.bool (fo && !decide (diffI fu s < 0))) ∧ w = w' := by
  have a2 : w.cell? ⟨C, 2, none⟩ = some (.int .u64 fu) := h.cell 2
  have a3 : w.cell? ⟨C, 3, none⟩ = some (.bool fo) := h.cell 3
  have HL := Lib.hid (seqLess_any fu s hf hs w)
  clear h
  cases fo
  · go_enter Tryz.func57, Tryz.ntmps57
    go_wp2
    go_ret
    exact ⟨rfl, rfl⟩
  · go_enter Tryz.func57, Tryz.ntmps57
    go_wp2_with (go_at_call 79; (with_reducible refine HL.out.mono ?_); rintro e w1 ⟨rfl, rfl⟩)
    go_ret
    exact ⟨rfl, rfl⟩
theorem gotAgeR (n : Nat) (v : Value) (fu : Nat) (fo : Bool) (s : Nat) (hn : n < 18446744073709551616) (hs : s < 18446744073709551616) (C : Nat) (w : World) (h : BlkIs (gotCellsR n v fu fo) 91 C w) :
    Calls Tryz.prog 58 #[.pointer (some ⟨C, 0, none⟩), .int .u64 s] w fun e w' => e = .returned (.int .i64 (diffI n s)) ∧ w = w' := by
  have a0 : w.cell? ⟨C, 0, none⟩ = some (.int .u64 n) := h.cell 0
  have HD := Lib.hid (seqDiff_any n s hn hs)
  clear h
  go_enter Tryz.func58, Tryz.ntmps58
  go_wp2_with (go_at_call 72; (with_reducible refine (HD.out _).mono ?_); rintro e w1 ⟨rfl, rfl⟩)
  go_ret
  exact ⟨rfl, rfl⟩
theorem gotThere_out (n : Nat) (l : List Int) (a : Int) (a1 : -9223372036854775808 ≤ a) (a2 : a ≤ 9223372036854775807) (ha : a < 0 ∨ (l.length : Int) ≤ a) (fu : Nat) (fo : Bool) (C g cap : Nat) (w : World) (h : GotR n l fu fo C g cap w) :
    Calls Tryz.prog 61 #[.pointer (some ⟨C, 0, none⟩), .int .i64 a] w fun e w' => e = .returned (.bool false) ∧ w = w' := by
  have c1 : w.cell? ⟨C, 1, none⟩ = some (.slice (some ⟨g, 0, none⟩) l.length cap) := h.blk.cell 1
  generalize l.length = m at *
  clear h
  rcases ha with ha | ha
  · have i1 : decide ((0 : Int) ≤ a) = false := decide_eq_false (by omega)
    have i2 : ¬ (0 : Int) ≤ a := by omega
    go_enter Tryz.func61, Tryz.ntmps61
    go_wp2
    go_ret
    exact ⟨rfl, rfl⟩
  · have i1 : decide ((0 : Int) ≤ a) = true := decide_eq_true (by omega)
    have i2 : decide (a < (m : Int)) = false := decide_eq_false (by omega)
    have i3 : ¬ a < (m : Int) := by omega
    have i4 : (0 : Int) ≤ a := by omega
    go_enter Tryz.func61, Tryz.ntmps61
    go_wp2
    go_ret
    exact ⟨rfl, rfl⟩
theorem gotThere_in (n : Nat) (l : List Int) (a : Nat) (v : Int) (hv : l[a]? = some v) (fu : Nat) (fo : Bool) (C g cap : Nat) (w : World) (h : GotR n l fu fo C g cap w) :
    Calls Tryz.prog 61 #[.pointer (some ⟨C, 0, none⟩), .int .i64 a] w fun e w' => e = .returned (.bool (!(v == 3))) ∧ w = w' := by
  have c1 : w.cell? ⟨C, 1, none⟩ = some (.slice (some ⟨g, 0, none⟩) l.length cap) := h.blk.cell 1
  have c2 : w.cell? ⟨g, a, none⟩ = some (.int .i64 v) := h.row.cell a v hv
  have hal : a < l.length := (List.getElem?_eq_some_iff.1 hv).1
  generalize l.length = m at *
  clear h hv
  have i1 : decide ((0 : Int) ≤ (a : Int)) = true := decide_eq_true (by omega)
  have i2 : decide ((a : Int) < (m : Int)) = true := decide_eq_true (by omega)
  go_enter Tryz.func61, Tryz.ntmps61
  go_wp2
  go_ret
  exact ⟨rfl, rfl⟩
/-- How long the row is, read off the world. -/
def lenM (C : Nat) (w : World) : Nat := match w.cell? ⟨C, 1, none⟩ with
  | some (.slice _ n _) => n
  | _ => 0
theorem lenM_at {C : Nat} {w : World} {p : Option Addr} {n c : Nat} (h : w.cell? ⟨C, 1, none⟩ = some (.slice p n c)) : lenM C w = n := by unfold lenM; rw [h]
theorem GotR.cut {n : Nat} {l : List Int} {fu : Nat} {fo : Bool} {C g cap : Nat} {w : World} (h : GotR n l fu fo C g cap w) (m : Nat) (hm : m ≤ l.length) : GotR n (l.take m) fu fo C g cap (w.setCell ⟨C, 1, none⟩ (.slice (some ⟨g, 0, none⟩) m cap)) := by
  have hl : (l.take m).length = m := by rw [List.length_take]; omega
  have h1 := h.setSlice g cap (l.take m) (h.row.take m) h.ne
  rw [hl] at h1
  exact h1
/-- What trim leaves: m of them, behind which all are lost. -/
structure Trim (l : List Int) (m : Nat) : Prop where
  le : m ≤ l.length
  lost : ∀ j, m ≤ j → j < l.length → l[j]? = some 3
theorem gotTrim_any (n : Nat) (l : List Int) (fu : Nat) (fo : Bool) (C g cap : Nat) (w : World) (h : GotR n l fu fo C g cap w) :
    Calls Tryz.prog 81 #[.pointer (some ⟨C, 0, none⟩)] w fun e w' => e = .returned (.tuple #[]) ∧ ∃ m, Trim l m ∧ (0 < m → ∃ v, l[m - 1]? = some v ∧ v ≠ 3) ∧ GotR n (l.take m) fu fo C g cap w' ∧ Kept [C] w w' := by
  have H0 : Hid (GotR n (l.take l.length) fu fo C g cap w) := Lib.hid (by rw [List.take_length]; exact h)
  clear h
  go_enter Tryz.func81, Tryz.ntmps81
  go_wp2
  go_loopw [2] (fun _ wr => ∃ m : Nat, Hid (Trim l m) ∧ Hid (GotR n (l.take m) fu fo C g cap wr) ∧ Hid (Kept [C] w wr)) (fun _ wr => lenM C wr)
  case atStart => exact ⟨l.length, Lib.hid ⟨Nat.le_refl _, fun j h1 h2 => absurd h1 (by omega)⟩, H0, Lib.hid (Kept.refl _ _)⟩
  case round =>
    clear H0
    obtain ⟨m, ht, hg, hk⟩ := hrel
    have hl : (l.take m).length = m := by rw [List.length_take]; have := ht.out.le; omega
    have c1 : wr.cell? ⟨C, 1, none⟩ = some (.slice (some ⟨g, 0, none⟩) m cap) := by have := hg.out.blk.cell 1; rw [hl] at this; exact this
    have f1 := hg.out.blk.free 1
    have hcap : m ≤ cap := by have := hg.out.row.cap1; omega
    have hcap2 := hg.out.row.cap2
    by_cases hm0 : m = 0
    · subst hm0
      go_wp2
      go_quiet (fail)
      go_wp2
      go_end0
      exact ⟨rfl, 0, ht.out, fun h => absurd h (by decide), hg.out.drewN _, hk.out.trans' (Kept.of_below _ (bel_drewN _ _))⟩
    · obtain ⟨q, hq⟩ : ∃ q, m = q + 1 := ⟨m - 1, by omega⟩
      obtain ⟨v, hv⟩ : ∃ v, l[q]? = some v := ⟨_, List.getElem?_eq_getElem (by have := ht.out.le; omega)⟩
      have c2 : wr.cell? ⟨g, q, none⟩ = some (.int .i64 v) := hg.out.row.cell q v (by rw [List.getElem?_take, if_pos (by omega)]; exact hv)
      have i1 : decide ((0 : Int) < (m : Int)) = true := decide_eq_true (by omega)
      have i2 : (m : Int) - 1 = (q : Int) := by omega
      have i3 : IntKind.i64.wrap (q : Int) = (q : Int) := by rw [IntKind.wrap_i64]; omega
      have i4 : q < m := by omega
      have i5 : q ≤ cap := by omega
      have i6 : 0 < m := by omega
      by_cases hv3 : v = 3
      · subst hv3
        go_wp2
        go_quiet (fail)
        go_wp2
        go_region
        have hle := ht.out.le
        have hcu : GotR n (l.take q) fu fo C g cap ((wr.drewN (nq + 1)).setCell ⟨C, 1, none⟩ (.slice (some ⟨g, 0, none⟩) q cap)) := by
          have h1 := (hg.out.drewN (nq + 1)).cut q (by rw [hl]; omega)
          rw [List.take_take, show min q m = q by omega] at h1
          exact h1
        have hku : Kept [C] w ((wr.drewN (nq + 1)).setCell ⟨C, 1, none⟩ (.slice (some ⟨g, 0, none⟩) q cap)) := (hk.out.trans' (Kept.of_below _ (bel_drewN _ _))).setCell (.inl (by simp)) _
        have hms : lenM C ((wr.drewN (nq + 1)).setCell ⟨C, 1, none⟩ (.slice (some ⟨g, 0, none⟩) q cap)) = q := by
          have h2 := hcu.blk.cell 1
          rw [show (l.take q).length = q by rw [List.length_take]; omega] at h2
          exact lenM_at h2
        have htr : Trim l q := ⟨by omega, fun j h1 h2 => by
          by_cases h3 : j = q
          · rw [h3]; exact hv
          · exact ht.out.lost j (by omega) h2⟩
        have hmr := lenM_at c1
        go_wp2
        exact ⟨⟨q, Lib.hid htr, Lib.hid hcu, Lib.hid hku⟩, by rw [hms, hmr]; omega⟩
      · have i7 : (v == 3) = false := by rw [beq_eq_false_iff_ne]; exact hv3
        go_wp2
        go_quiet (fail)
        go_wp2
        go_end0
        exact ⟨rfl, m, ht.out, fun _ => ⟨v, by rw [hq]; exact hv, hv3⟩, hg.out.drewN _, hk.out.trans' (Kept.of_below _ (bel_drewN _ _))⟩
end Go.Proofs.YtkpginmdnlhfbaaGreatDoor

namespace Go.Proofs.YtkpginmdnlhfbaaGreatDoor
open Go.ChangeShapes Go.WideShapes Go.ChangeAt Go.RowKit
set_option linter.unusedVariables false
set_option linter.unusedSimpArgs false

/-- The states behind a step of d ahead. -/
def leadL (l : List Int) (k : Nat) (st : Int) : List Int := ((List.replicate k 3 ++ l).take 250).set 0 st
theorem leadL_eq (l : List Int) (k : Nat) (st : Int) (M : Nat) (hM : (List.replicate k (3 : Int) ++ l).length = M) (T : Nat) (hT : min M 250 = T) : leadL l k st = ((List.replicate k 3 ++ l).take T).set 0 st := by
  unfold leadL
  by_cases h : M ≤ 250
  · rw [List.take_of_length_le (by omega), List.take_of_length_le (by omega)]
  · rw [show T = 250 by omega]
set_option maxHeartbeats 2000000 in
theorem gotLead_any (n : Nat) (hn : n < 18446744073709551616) (l : List Int) (hl : 1 ≤ l.length) (hl2 : l.length ≤ 250) (fu : Nat) (fo : Bool) (s : Nat) (hs : s < 18446744073709551616) (d : Nat) (hd : diffI n s = -(d : Int)) (hd1 : 1 ≤ d) (hd2 : d ≤ 281474976710656) (k : Nat) (hk : min d 250 = k) (st : Int) (y : Nat) (hy : s % 281474976710656 = y)
    (C g cap : Nat) (w : World) (h : GotR n l fu fo C g cap w) :
    Calls Tryz.prog 60 #[.pointer (some ⟨C, 0, none⟩), .int .u64 s, .int .i64 st] w fun e w' => e = .returned (.tuple #[]) ∧ ∃ g2 cap2 m, GotR y ((leadL l k st).take m) fu fo C g2 cap2 w' ∧ Trim (leadL l k st) m ∧ (0 < m → ∃ v, (leadL l k st)[m - 1]? = some v ∧ v ≠ 3) ∧ (g2 = g ∨ w.heap.size ≤ g2) ∧ Kept [C, g] w w' := by
  have HA : Hid (Calls Tryz.prog 58 #[.pointer (some ⟨C, 0, none⟩), .int .u64 s] w fun e w' => e = .returned (.int .i64 (-(d : Int))) ∧ w = w') := Lib.hid (by rw [← hd]; exact gotAgeR n _ fu fo s hn hs C w h.blk)
  have HL := Lib.hid (gotLost_any k (by omega) (by omega) w.drew)
  have H := Lib.hid h
  have a1 : w.cell? ⟨C, 1, none⟩ = some (.slice (some ⟨g, 0, none⟩) l.length cap) := h.blk.cell 1
  have f1 := h.blk.free 1
  obtain ⟨N, hN⟩ : ∃ N, l.length = N := ⟨_, rfl⟩
  have HN := Lib.hid hN
  rw [hN] at a1 hl hl2
  have i0 : IntKind.i64.wrap (d : Int) = (d : Int) := by rw [IntKind.wrap_i64]; omega
  have i1 : min (d : Int) 250 = (k : Int) := by omega
  have i2 : (if (250 : Int) < (d : Int) then (250 : Int) else (d : Int)) = (k : Int) := by split <;> omega
  have HI : Hid (∀ W v, RowR g cap l W → W.rowIs v 3 k (fun _ => .int .i64 3) → v ≠ g → Calls Tryz.prog 97 #[.slice (some ⟨g, 0, none⟩) N cap, .int .i64 0, .slice (some ⟨v, 0, none⟩) k k] W fun e w' => ∃ g' c', e = .returned (.slice (some ⟨g', 0, none⟩) (N + k) c') ∧ RowR g' c' (List.replicate k 3 ++ l) w' ∧ (g' = g ∨ W.heap.size ≤ g') ∧ Kept [g] W w') := Lib.hid (fun W v hr hv hne => by
    rw [← hN]
    exact insert_any l (by omega) (by omega) k (by omega) (by omega) g cap v W hr hv hne)
  obtain ⟨M, hM⟩ : ∃ M, (List.replicate k (3 : Int) ++ l).length = M := ⟨_, rfl⟩
  have hM2 : M = N + k := by rw [← hM, List.length_append, List.length_replicate]; omega
  have HM := Lib.hid hM
  have HM2 := Lib.hid hM2
  have HL0 : Hid ((List.replicate k (3 : Int) ++ l)[0]? = some 3) := Lib.hid (by rw [List.getElem?_append_left (by rw [List.length_replicate]; omega), List.getElem?_replicate, if_pos (by omega)])
  have hk1 : 1 ≤ k ∧ k ≤ 250 := by omega
  have hn2 : (s : Int) % 281474976710656 = (y : Int) := by omega
  have HO : Hid (∀ W, Calls Tryz.prog 59 #[.int .u64 s] W fun e w' => e = .returned (.int .u64 (y : Int)) ∧ W = w') := Lib.hid (fun W => by rw [← hn2]; exact seqOf_any s hs W)
  clear h hN hd hk hd1 hM hM2 hn2 hy
  go_enter Tryz.func60, Tryz.ntmps60
  go_upto_region 1 with (go_at_call 58; (with_reducible refine HA.out.mono ?_); rintro e w1 ⟨rfl, rfl⟩)
  go_cut [6] (fun s6 wx => s6 = .int .i64 (k : Int) ∧ ∃ g2 cap2, GotR n (List.replicate k 3 ++ l) fu fo C g2 cap2 wx ∧ Kept [C, g] w wx ∧ (g2 = g ∨ w.heap.size ≤ g2))
  case first =>
    go_region_with ((first
      | (go_at_call 98; (with_reducible refine HL.out.mono ?_); rintro e W1 ⟨v, rfl, hb1, hs1, hk1⟩; have H1 : Hid (GotR n l fu fo C g cap W1) := Lib.hid ((H.out.drewN 1).below hk1); have a2 : W1.cell? ⟨C, 1, none⟩ = some (.slice (some ⟨g, 0, none⟩) N cap) := (by rw [← HN.out]; exact H1.out.blk.cell 1))
      | (go_at_call 97; (with_reducible refine (HI.out W1 v H1.out.row hb1 (by have := H.out.row.lt; have : w.drew.heap.size = w.heap.size := rfl; omega)).mono ?_); rintro e W2 ⟨g2, cap2, rfl, hrow, hg2, hk2⟩; have H2 : Hid (BlkIs (gotCellsR n (.slice (some ⟨g, 0, none⟩) l.length cap) fu fo) 91 C W2) := Lib.hid (H1.out.blk.kept hk2 (by simp; exact fun e => H1.out.ne e.symm)); have a3 : W2.cell? ⟨C, 1, none⟩ = some (.slice (some ⟨g, 0, none⟩) N cap) := (by rw [← HN.out]; exact H2.out.cell 1); have f3 := H2.out.free 1)))
    all_goals (
      have hs1' : w.heap.size ≤ W1.heap.size := hk1.size
      have hC := H1.out.blk.lt
      have hne : g2 ≠ C := by
        rcases hg2 with e | e
        · rw [e]; exact H.out.ne
        · omega
      have hfin : GotR n (List.replicate k 3 ++ l) fu fo C g2 cap2 (W2.setCell ⟨C, 1, none⟩ (.slice (some ⟨g2, 0, none⟩) (N + k) cap2)) := by
        have h1 := H2.out.set 1 (.slice (some ⟨g2, 0, none⟩) (List.replicate k (3 : Int) ++ l).length cap2)
        rw [HM.out, HM2.out] at h1
        exact ⟨by rw [HM.out, HM2.out]; exact h1, hrow.far hne _, hne⟩
      have hkf : Kept [C, g] w (W2.setCell ⟨C, 1, none⟩ (.slice (some ⟨g2, 0, none⟩) (N + k) cap2)) := (((Kept.refl [C, g] w).drew.trans' (Kept.of_below _ hk1)).trans' (hk2.more (by simp))).setCell (.inl (by simp)) _
      have hgf : g2 = g ∨ w.heap.size ≤ g2 := hg2.imp id (fun e => by omega)
      clear hk2 hrow hg2 hk1 H1 H2 HI HL HA a1 f1
      go_wp2_with fail
      go_meet
      exact ⟨rfl, _, _, hfin, hkf, hgf⟩)
  case rest =>
    obtain ⟨rfl, g2, cap2, h2, hk2, hs2⟩ := hcut
    have c1 : wc.cell? ⟨C, 1, none⟩ = some (.slice (some ⟨g2, 0, none⟩) M cap2) := by have := h2.blk.cell 1; rw [HM.out] at this; exact this
    have d1 := h2.blk.free 1
    have hc1 : M ≤ cap2 := by have := h2.row.cap1; rw [HM.out] at this; exact this
    have hc2 := h2.row.cap2
    obtain ⟨T, hT⟩ : ∃ T, min M 250 = T := ⟨_, rfl⟩
    have hM2 := HM2.out
    have j1 : min (M : Int) 250 = (T : Int) := by omega
    have j2 : (if (250 : Int) < (M : Int) then (250 : Int) else (M : Int)) = (T : Int) := by split <;> omega
    have j3 : T ≤ M := by omega
    have j4 : T ≤ cap2 := by omega
    have j5 : 0 < T := by omega
    have H2 := Lib.hid h2
    have HT := Lib.hid hT
    clear h2 a1 f1 H HL HA HI hT hM2
    go_wp2
    go_region
    obtain ⟨W3, hW3⟩ : ∃ W3, (wc.setCell ⟨C, 1, none⟩ (.slice (some ⟨g2, 0, none⟩) T cap2)).drew = W3 := ⟨_, rfl⟩
    have h3 : GotR n ((List.replicate k 3 ++ l).take T) fu fo C g2 cap2 W3 := by
      rw [← hW3]
      exact (H2.out.cut T (by rw [HM.out]; exact j3)).drewN 1
    have hk3 : Kept [C, g] w W3 := by
      rw [← hW3]
      exact (hk2.setCell (.inl (by simp)) _).drew
    rw [hW3]
    have hl3 : ((List.replicate k (3 : Int) ++ l).take T).length = T := by rw [List.length_take, HM.out]; omega
    clear hW3 hk2 H2 c1 d1
    have c0 : W3.cell? ⟨C, 0, none⟩ = some (.int .u64 n) := h3.blk.cell 0
    have c1 : W3.cell? ⟨C, 1, none⟩ = some (.slice (some ⟨g2, 0, none⟩) T cap2) := by have := h3.blk.cell 1; rw [hl3] at this; exact this
    have c2 : W3.cell? ⟨g2, 0, none⟩ = some (.int .i64 3) := h3.row.cell 0 3 (by rw [List.getElem?_take, if_pos j5]; exact HL0.out)
    have d0 := h3.blk.free 0
    have d2 := h3.row.free 0
    have e1 := h3.ne
    have e2 : C ≠ g2 := fun e => e1 e.symm
    have H3 := Lib.hid h3
    have HK3 := Lib.hid hk3
    have HS2 := Lib.hid hs2
    clear h3 hk3 hl3 hs2
    go_wp2
    go_region_with (go_at_call 59; (with_reducible refine (HO.out _).mono ?_); rintro e w5 ⟨rfl, rfl⟩)
    all_goals (
      obtain ⟨W4, hW4⟩ : ∃ W4, ((W3.setCell ⟨C, 0, none⟩ (.int .u64 (y : Int))).setCell ⟨g2, 0, none⟩ (.int .i64 st)).drew = W4 := ⟨_, rfl⟩
      have h4 : GotR y (leadL l k st) fu fo C g2 cap2 W4 := by
        rw [← hW4, leadL_eq l k st M HM.out T HT.out]
        exact ((H3.out.setNewest y).setState 0 st).drewN 1
      have hk4 : Kept [C, g] w W4 := by
        rw [← hW4]
        exact ((HK3.out.setCell (.inl (by simp)) _).setCell (by rcases HS2.out with e | e; exact .inl (by simp [e]); exact .inr e) _).drew
      rw [hW4]
      clear hW4 c0 c1 c2 d0 d2
      have HT2 := Lib.hid (gotTrim_any y (leadL l k st) fu fo C g2 cap2 W4 h4)
      go_wp2_with (go_at_call 81; (with_reducible refine HT2.out.mono ?_); rintro e W5 ⟨rfl, m, ht1, ht2, h5, hk5⟩)
      go_end0
      exact ⟨rfl, g2, cap2, m, h5, ht1, ht2, HS2.out, hk4.trans' (hk5.more (by simp))⟩)
end Go.Proofs.YtkpginmdnlhfbaaGreatDoor

namespace Go.Proofs.YtkpginmdnlhfbaaGreatDoor
open Go.ChangeShapes Go.WideShapes Go.ChangeAt Go.RowKit
set_option linter.unusedVariables false
set_option linter.unusedSimpArgs false

def stOf (mark : Bool) : Int := if mark then 1 else 0
theorem gotPut_firstR (s : Nat) (hs : s < 18446744073709551616) (mark : Bool) (y : Nat) (hy : s % 281474976710656 = y) (C : Nat) (w : World) (h : BlkIs (gotCellsR 0 (.slice none 0 0) 0 false) 91 C w) :
    Calls Tryz.prog 15 #[.pointer (some ⟨C, 0, none⟩), .int .u64 s, .bool mark] w fun e w' => ∃ g, e = .returned (.bool true) ∧ GotR y [stOf mark] 0 false C g 1 w' ∧ Kept [C] w w' ∧ w.heap.size ≤ g := by
  have HF := Lib.hid (gotForg_any 0 _ 0 false s (by decide) hs C w h)
  have HA := Lib.hid (gotAgeR 0 _ 0 false s (by decide) hs C w h)
  have hn2 : (s : Int) % 281474976710656 = (y : Int) := by omega
  have HO : Hid (∀ W, Calls Tryz.prog 59 #[.int .u64 s] W fun e w' => e = .returned (.int .u64 (y : Int)) ∧ W = w') := Lib.hid (fun W => by rw [← hn2]; exact seqOf_any s hs W)
  have a1 : w.cell? ⟨C, 1, none⟩ = some (.slice none 0 0) := h.cell 1
  have a0 : w.cell? ⟨C, 0, none⟩ = some (.int .u64 0) := h.cell 0
  have f0 := h.free 0
  have f1 := h.free 1
  have hC := h.lt
  have H := Lib.hid h
  obtain ⟨A, hA⟩ : ∃ A, diffI 0 s = A := ⟨_, rfl⟩
  rw [show ((0 : Nat) : Int) = 0 from rfl] at HA
  clear h hn2 hy
  have hfin : ∀ st : Int, GotR y [st] 0 false C w.heap.size 1 (((w.setCell ⟨C, 0, none⟩ (.int .u64 y)).setCell ⟨C, 1, none⟩ (.slice (some ⟨w.heap.size, 0, none⟩) 1 1)).alloc (.cells #[.int .i64 st] 3)) ∧ Kept [C] w (((w.setCell ⟨C, 0, none⟩ (.int .u64 y)).setCell ⟨C, 1, none⟩ (.slice (some ⟨w.heap.size, 0, none⟩) 1 1)).alloc (.cells #[.int .i64 st] 3)) := fun st => by
    have h2 := ((H.out.set 0 (.int .u64 y)).set 1 (.slice (some ⟨w.heap.size, 0, none⟩) 1 1)).alloc (.cells #[.int .i64 st] 3)
    have hsz : ((w.setCell ⟨C, 0, none⟩ (.int .u64 y)).setCell ⟨C, 1, none⟩ (.slice (some ⟨w.heap.size, 0, none⟩) 1 1)).heap.size = w.heap.size := by simp
    have h3 := World.rowIs_alloc ((w.setCell ⟨C, 0, none⟩ (.int .u64 y)).setCell ⟨C, 1, none⟩ (.slice (some ⟨w.heap.size, 0, none⟩) 1 1)) #[.int .i64 st] 3 (fun _ => .int .i64 st) (fun i hi => by
      obtain rfl : i = 0 := by simpa using hi
      rfl)
    rw [hsz] at h3
    exact ⟨⟨h2, ⟨⟨_, h3, fun i v hv => by
      rcases i with _ | i
      · cases hv; rfl
      · cases hv⟩, Nat.le_refl _, by decide⟩, by omega⟩, (((Kept.refl [C] w).setCell (.inl (by simp)) _).setCell (.inl (by simp)) _).alloc _⟩
  have HFIN := Lib.hid hfin
  clear hfin
  cases mark
  all_goals
    go_enter Tryz.func15, Tryz.ntmps15
    go_wp2_with (first
      | (go_at_call 57; (with_reducible refine HF.out.mono ?_); rintro e w1 ⟨rfl, rfl⟩)
      | (go_at_call 58; (with_reducible refine HA.out.mono ?_); rintro e w1 ⟨rfl, rfl⟩)
      | (go_at_call 59; (with_reducible refine (HO.out _).mono ?_); rintro e w1 ⟨rfl, rfl⟩))
    go_ret
    first
      | exact ⟨w.heap.size, rfl, (HFIN.out 0).1, (HFIN.out 0).2, Nat.le_refl _⟩
      | exact ⟨w.heap.size, rfl, (HFIN.out 1).1, (HFIN.out 1).2, Nat.le_refl _⟩
theorem gotPut_leadR (n : Nat) (hn : n < 18446744073709551616) (l : List Int) (hl : 1 ≤ l.length) (hl2 : l.length ≤ 250) (fu : Nat) (hfu : fu < 18446744073709551616) (fo : Bool) (s : Nat) (hs : s < 18446744073709551616) (hf : (fo && !decide (diffI fu s < 0)) = false) (d : Nat) (hd : diffI n s = -(d : Int)) (hd1 : 1 ≤ d) (hd2 : d ≤ 281474976710656) (k : Nat) (hk : min d 250 = k) (mark : Bool) (y : Nat) (hy : s % 281474976710656 = y)
    (C g cap : Nat) (w : World) (h : GotR n l fu fo C g cap w) :
    Calls Tryz.prog 15 #[.pointer (some ⟨C, 0, none⟩), .int .u64 s, .bool mark] w fun e w' => e = .returned (.bool true) ∧ ∃ g2 cap2 m, GotR y ((leadL l k (stOf mark)).take m) fu fo C g2 cap2 w' ∧ Trim (leadL l k (stOf mark)) m ∧ (0 < m → ∃ v, (leadL l k (stOf mark))[m - 1]? = some v ∧ v ≠ 3) ∧ (g2 = g ∨ w.heap.size ≤ g2) ∧ Kept [C, g] w w' := by
  have HF : Hid (Calls Tryz.prog 57 #[.pointer (some ⟨C, 0, none⟩), .int .u64 s] w fun e w' => e = .returned (.bool false) ∧ w = w') := Lib.hid (by rw [← hf]; exact gotForg_any n _ fu fo s hfu hs C w h.blk)
  have HA : Hid (Calls Tryz.prog 58 #[.pointer (some ⟨C, 0, none⟩), .int .u64 s] w fun e w' => e = .returned (.int .i64 (-(d : Int))) ∧ w = w') := Lib.hid (by rw [← hd]; exact gotAgeR n _ fu fo s hn hs C w h.blk)
  have HL := Lib.hid (gotLead_any n hn l hl hl2 fu fo s hs d hd hd1 hd2 k hk (stOf mark) y hy C g cap w h)
  have a1 : w.cell? ⟨C, 1, none⟩ = some (.slice (some ⟨g, 0, none⟩) l.length cap) := h.blk.cell 1
  obtain ⟨N, hN⟩ : ∃ N, l.length = N := ⟨_, rfl⟩
  rw [hN] at a1 hl
  have i1 : ((N : Int) == 0) = false := by rw [beq_eq_false_iff_ne]; omega
  have i2 : decide (-(d : Int) < 0) = true := decide_eq_true (by omega)
  have i3 : ¬ N = 0 := by omega
  have i4 : 0 < d := by omega
  clear h hN hd hk hy hf
  cases mark
  all_goals
    unfold stOf at HL ⊢
    simp only [if_true, if_false, Bool.false_eq_true] at HL ⊢
    go_enter Tryz.func15, Tryz.ntmps15
    go_wp2_with (first
      | (go_at_call 57; (with_reducible refine HF.out.mono ?_); rintro e w1 ⟨rfl, rfl⟩)
      | (go_at_call 58; (with_reducible refine HA.out.mono ?_); rintro e w1 ⟨rfl, rfl⟩)
      | (go_at_call 60; (with_reducible refine HL.out.mono ?_); rintro e w2 ⟨rfl, hh⟩))
    go_ret
    exact ⟨rfl, hh⟩
/-- What is old, or there already. -/
theorem gotPut_noR (n : Nat) (hn : n < 18446744073709551616) (l : List Int) (hl : 1 ≤ l.length) (fu : Nat) (hfu : fu < 18446744073709551616) (fo : Bool) (s : Nat) (hs : s < 18446744073709551616) (hf : (fo && !decide (diffI fu s < 0)) = false) (a : Nat) (ha : diffI n s = (a : Int)) (ho : 250 ≤ a ∨ (a < 250 ∧ ∃ v, l[a]? = some v ∧ v ≠ 3)) (ha2 : a ≤ 281474976710656) (mark : Bool)
    (C g cap : Nat) (w : World) (h : GotR n l fu fo C g cap w) :
    Calls Tryz.prog 15 #[.pointer (some ⟨C, 0, none⟩), .int .u64 s, .bool mark] w fun e w' => e = .returned (.bool false) ∧ w = w' := by
  have HF : Hid (Calls Tryz.prog 57 #[.pointer (some ⟨C, 0, none⟩), .int .u64 s] w fun e w' => e = .returned (.bool false) ∧ w = w') := Lib.hid (by rw [← hf]; exact gotForg_any n _ fu fo s hfu hs C w h.blk)
  have HA : Hid (Calls Tryz.prog 58 #[.pointer (some ⟨C, 0, none⟩), .int .u64 s] w fun e w' => e = .returned (.int .i64 (a : Int)) ∧ w = w') := Lib.hid (by rw [← ha]; exact gotAgeR n _ fu fo s hn hs C w h.blk)
  have HT : Hid (a < 250 → Calls Tryz.prog 61 #[.pointer (some ⟨C, 0, none⟩), .int .i64 (a : Int)] w fun e w' => e = .returned (.bool true) ∧ w = w') := Lib.hid (fun hlt => by
    rcases ho with h1 | ⟨_, v, hv, hv3⟩
    · omega
    · have h2 := gotThere_in n l a v hv fu fo C g cap w h
      rw [show (!(v == 3)) = true by rw [Bool.not_eq_true']; rw [beq_eq_false_iff_ne]; exact hv3] at h2
      exact h2)
  have a1 : w.cell? ⟨C, 1, none⟩ = some (.slice (some ⟨g, 0, none⟩) l.length cap) := h.blk.cell 1
  obtain ⟨N, hN⟩ : ∃ N, l.length = N := ⟨_, rfl⟩
  rw [hN] at a1 hl
  have i1 : ((N : Int) == 0) = false := by rw [beq_eq_false_iff_ne]; omega
  have i2 : decide ((a : Int) < 0) = false := decide_eq_false (by omega)
  have i3 : ¬ N = 0 := by omega
  clear h hN ha hf ho
  by_cases h250 : a < 250
  · have HT2 := Lib.hid (HT.out h250)
    have i5 : decide ((250 : Int) ≤ (a : Int)) = false := decide_eq_false (by omega)
    have i6 : ¬ (250 : Int) ≤ (a : Int) := by omega
    have i7 : ¬ 250 ≤ a := by omega
    clear HT
    cases mark
    all_goals
      go_enter Tryz.func15, Tryz.ntmps15
      go_wp2_with (first
        | (go_at_call 57; (with_reducible refine HF.out.mono ?_); rintro e w1 ⟨rfl, rfl⟩)
        | (go_at_call 58; (with_reducible refine HA.out.mono ?_); rintro e w1 ⟨rfl, rfl⟩)
        | (go_at_call 61; (with_reducible refine HT2.out.mono ?_); rintro e w1 ⟨rfl, rfl⟩))
      go_ret
      exact ⟨rfl, rfl⟩
  · have i5 : decide ((250 : Int) ≤ (a : Int)) = true := decide_eq_true (by omega)
    have i6 : (250 : Int) ≤ (a : Int) := by omega
    have i7 : 250 ≤ a := by omega
    clear HT
    cases mark
    all_goals
      go_enter Tryz.func15, Tryz.ntmps15
      go_wp2_with (first
        | (go_at_call 57; (with_reducible refine HF.out.mono ?_); rintro e w1 ⟨rfl, rfl⟩)
        | (go_at_call 58; (with_reducible refine HA.out.mono ?_); rintro e w1 ⟨rfl, rfl⟩))
      go_ret
      exact ⟨rfl, rfl⟩
theorem gotHas_any (n : Nat) (hn : n < 18446744073709551616) (l : List Int) (fu : Nat) (fo : Bool) (s : Nat) (hs : s < 18446744073709551616) (b : Bool) (C g cap : Nat) (w : World) (h : GotR n l fu fo C g cap w)
    (hb : Calls Tryz.prog 61 #[.pointer (some ⟨C, 0, none⟩), .int .i64 (diffI n s)] w fun e w' => e = .returned (.bool b) ∧ w = w') :
    Calls Tryz.prog 30 #[.pointer (some ⟨C, 0, none⟩), .int .u64 s] w fun e w' => e = .returned (.bool b) ∧ w = w' := by
  have HA := Lib.hid (gotAgeR n _ fu fo s hn hs C w h.blk)
  have HT := Lib.hid hb
  obtain ⟨A, hA⟩ : ∃ A, diffI n s = A := ⟨_, rfl⟩
  rw [hA] at HA HT
  clear h hb hA
  go_enter Tryz.func30, Tryz.ntmps30
  go_wp2_with (first
    | (go_at_call 58; (with_reducible refine HA.out.mono ?_); rintro e w1 ⟨rfl, rfl⟩)
    | (go_at_call 61; (with_reducible refine HT.out.mono ?_); rintro e w1 ⟨rfl, rfl⟩))
  go_ret
  exact ⟨rfl, rfl⟩
end Go.Proofs.YtkpginmdnlhfbaaGreatDoor

namespace Go.Proofs.YtkpginmdnlhfbaaGreatDoor
open Go.ChangeShapes Go.WideShapes Go.ChangeAt Go.RowKit
set_option linter.unusedVariables false
set_option linter.unusedSimpArgs false

theorem step_append_runI {P : Program} {ops : Array Oper} {o : Oper} {a : Act} {w : World} {K : Act → World → Prop} {Q : Exit → Act → World → Prop} {E : Prop}
    (hg : o.guard = none) (d x : Operand) (t t' : TypeId) (hop : o.op = Op.call { callee := Callee.builtin Builtin.append, args := #[d, x], argTypes := #[t, t'] })
    (v u : Value) (hd : a.eval d = v) (hx : a.eval x = u) {v' : Value} {w' : World} (hr : (Builtin.append_ #[t, t'] o.type #[v, u]).run P w = .ok v' w') (hK : K (a.put o.dst v') w') :
    if Region.wanted o (yielded ops a.tmps) = true then Oper.wp P o a w K Q else E := by
  have hw : Region.wanted o (yielded ops a.tmps) = true := by simp [Region.wanted, hg]
  rw [if_pos hw]
  unfold Oper.wp
  simp [execOp, hop, resolve, invoke, builtin, hd, hx, hr, Result.andThen]
  exact hK
theorem append_any (l : List Int) (hl2 : l.length ≤ 1000) (k : Nat) (hk : 1 ≤ k) (hk2 : k ≤ 1000) (b c v : Nat) (w : World) (hr : RowR b c l w) (hv : w.rowIs v 3 k (fun _ => .int .i64 3)) :
    ∃ g' c' w', (∀ ty, (Builtin.append_ #[23, 23] ty #[.slice (some ⟨b, 0, none⟩) l.length c, .slice (some ⟨v, 0, none⟩) k k]).run Tryz.prog w = .ok (.slice (some ⟨g', 0, none⟩) (l.length + k) c') w') ∧ RowR g' c' (l ++ List.replicate k 3) w' ∧ (g' = b ∨ w.heap.size ≤ g') ∧ Kept [b] w w' := by
  obtain ⟨i0, hi0, hz0, hzs, hzb⟩ := info_parts infoGtN
  have hvs : ∀ j u, (List.replicate k (Value.int .i64 3))[j]? = some u → w.cell? ((⟨v, 0, none⟩ : Addr).add j) = some u := fun j u hj => by
    rw [List.getElem?_replicate] at hj
    split at hj
    · rename_i hj2
      cases hj
      rw [Addr.add_lit, Nat.zero_add]
      exact hv.cell hj2
    · cases hj
  have h1v : ∀ u ∈ List.replicate k (Value.int .i64 3), u.oneCell' = true := fun u hu => by rw [List.eq_of_mem_replicate hu]; rfl
  have hsrc : Src Tryz.prog i0.size 23 (.slice (some ⟨v, 0, none⟩) k k) k (List.replicate k (.int .i64 3)) w := by
    rw [hzs]
    exact Src.ofSlice w Tryz.underlying23 ⟨v, 0, none⟩ k k _ (by rw [List.length_replicate]; omega) hvs h1v
  have hlen : ∀ i u, (l ++ List.replicate k (3 : Int))[i]? = some u → (i < l.length ∧ l[i]? = some u) ∨ (l.length ≤ i ∧ i < l.length + k ∧ u = 3) := fun i u hu => by
    by_cases hil : i < l.length
    · rw [List.getElem?_append_left hil] at hu
      exact .inl ⟨hil, hu⟩
    · rw [List.getElem?_append_right (by omega), List.getElem?_replicate] at hu
      split at hu
      · cases hu; exact .inr ⟨by omega, by omega, rfl⟩
      · cases hu
  obtain ⟨f, hf1, hf2⟩ := hr.row
  have hcap1 := hr.cap1
  have hcap2 := hr.cap2
  by_cases hroom : l.length + k ≤ c
  · refine ⟨b, c, _, fun ty => run_append_room_src (P := Tryz.prog) (w := w) 23 23 ty 3 i0 Tryz.underlying23 hi0 b 0 l.length c _ k _ hsrc hroom (fun j hj => by rw [List.length_replicate] at hj; rw [hzs, hf1.cell (by omega)]; rfl) (fun j _ => hf1.frozen _), ⟨⟨_, Go.rowIs_setCells _ _ w f hf1, fun i u hu => ?_⟩, by rw [List.length_append, List.length_replicate]; exact hroom, hcap2⟩, .inl rfl, kept_setCells [b] b (.inl (by simp)) _ _ _ (Kept.refl [b] w)⟩
    rcases hlen i u hu with ⟨h1, h2⟩ | ⟨h1, h2, rfl⟩
    · rw [hzs, if_neg (by omega)]
      exact hf2 i u h2
    · rw [hzs, List.length_replicate, if_pos (by omega), List.getElem?_replicate, if_pos (by omega)]
      rfl
  · have hold : (Builtin.firstCells i0.size l.length (.slice (some ⟨b, 0, none⟩) l.length c)).run Tryz.prog w.drew = .ok (l.map (Value.int .i64)).toArray w.drew := by
      rw [hzs]
      exact run_firstCells_some w.drew 1 l.length ⟨b, 0, none⟩ l.length c (l.map (Value.int .i64)) (by rw [List.length_map]; omega) (fun j u hj => by
        rw [List.getElem?_map] at hj
        obtain ⟨x, hx, rfl⟩ := Option.map_eq_some_iff.1 hj
        rw [Addr.add_lit, Nat.zero_add]
        exact hr.cell j x hx)
    have g1 := grownCap_ge w (l.length + k) c 3
    have g2 := grownCap_le_maxLen w (l.length + k) c 3 (by unfold maxLen; omega)
    unfold maxLen at g2
    have hrun := fun ty => run_append_grow_src (P := Tryz.prog) (w := w) 23 23 ty 3 i0 _ Tryz.underlying23 hi0 hz0 (some ⟨b, 0, none⟩) l.length c _ hold _ k _ hsrc (by omega) (by omega) (by rw [hzb]; exact growslice_fits (by omega) (by omega))
    generalize grownCap w (l.length + k) c 3 = G at *
    obtain ⟨A, hA⟩ : ∃ A, (l.map (Value.int .i64) ++ List.replicate k (Value.int .i64 3)).toArray ++ Builtin.zeroCells (Value.int .i64 0).cells (G - (l.length + k)) = A := ⟨_, rfl⟩
    rw [hA] at hrun
    have hAs : A.size = G := by
      rw [← hA]
      simp [Builtin.zeroCells, Value.cells]
      omega
    have r0 : (w.drew.alloc (.cells A 3)).rowIs w.heap.size 3 G (fun i => A[i]?.getD default) := by
      have := World.rowIs_alloc w.drew A 3 (fun i => A[i]?.getD default) (fun i hi => by rw [Array.getElem?_eq_getElem hi]; rfl)
      rw [hAs] at this
      exact this
    refine ⟨w.heap.size, G, _, hrun, ⟨⟨_, r0, fun i u hu => ?_⟩, by rw [List.length_append, List.length_replicate]; omega, by omega⟩, .inr (Nat.le_refl _), ((Kept.refl [b] w).drew).alloc _⟩
    have hi : (l.map (Value.int .i64) ++ List.replicate k (Value.int .i64 3))[i]? = some (.int .i64 u) := by
      have := congrArg (Option.map (Value.int .i64)) hu
      rw [← List.getElem?_map, List.map_append, List.map_replicate] at this
      exact this
    have hil := (List.getElem?_eq_some_iff.1 hi).1
    rw [← hA, Array.getElem?_append_left (by simpa using hil), List.getElem?_toArray, hi]
    rfl
/-- What is filled in behind the last: the states turn, nothing else. -/
theorem gotFill_any (n : Nat) (l : List Int) (hl : 1 ≤ l.length) (hl2 : l.length ≤ 250) (fu : Nat) (fo : Bool) (a : Nat) (ha : a < 250) (st : Int) (C g cap : Nat) (w : World) (h : GotR n l fu fo C g cap w) :
    Calls Tryz.prog 62 #[.pointer (some ⟨C, 0, none⟩), .int .i64 (a : Int), .int .i64 st] w fun e w' => e = .returned (.tuple #[]) ∧ ∃ g2 cap2, GotR n ((l ++ List.replicate (a + 1 - l.length) 3).set a st) fu fo C g2 cap2 w' ∧ (g2 = g ∨ w.heap.size ≤ g2) ∧ Kept [C, g] w w' := by
  have H := Lib.hid h
  have a1 : w.cell? ⟨C, 1, none⟩ = some (.slice (some ⟨g, 0, none⟩) l.length cap) := h.blk.cell 1
  have f1 := h.blk.free 1
  obtain ⟨N, hN⟩ : ∃ N, l.length = N := ⟨_, rfl⟩
  have HN := Lib.hid hN
  rw [hN] at a1 hl hl2
  by_cases hm : a + 1 ≤ N
  · obtain ⟨x, hx⟩ : ∃ x, l[a]? = some x := ⟨_, List.getElem?_eq_getElem (by omega)⟩
    have c2 : w.cell? ⟨g, a, none⟩ = some (.int .i64 x) := h.row.cell a x hx
    have f2 := h.row.free a
    obtain ⟨y, hy⟩ : ∃ y : Int, (a : Int) + 1 - (N : Int) = y := ⟨_, rfl⟩
    have i1 : decide ((0 : Int) < y) = false := decide_eq_false (by omega)
    have i2 : ¬ (0 : Int) < y := by omega
    have i3 : IntKind.i64.wrap y = y := by rw [IntKind.wrap_i64]; omega
    have i4 : a < N := by omega
    have i5 : IntKind.i64.wrap ((a : Int) + 1) = (a : Int) + 1 := by rw [IntKind.wrap_i64]; omega
    have hfin : GotR n ((l ++ List.replicate (a + 1 - l.length) 3).set a st) fu fo C g cap (w.setCell ⟨g, a, none⟩ (.int .i64 st)) := by
      rw [show a + 1 - l.length = 0 by omega, List.replicate_zero, List.append_nil]
      exact h.setState a st
    have HFIN := Lib.hid hfin
    clear h hN hfin hx
    go_enter Tryz.func62, Tryz.ntmps62
    go_wp2
    go_end0
    exact ⟨rfl, g, ⟨cap, HFIN.out⟩, .inl rfl, (Kept.refl [C, g] w).setCell (.inl (by simp)) _⟩
  · obtain ⟨k, hk⟩ : ∃ k, a + 1 - N = k := ⟨_, rfl⟩
    have i0 : (a : Int) + 1 - (N : Int) = (k : Int) := by omega
    have i1 : decide ((0 : Int) < (k : Int)) = true := decide_eq_true (by omega)
    have i2 : (0 : Int) < (k : Int) := by omega
    have i22 : 0 < k := by omega
    have i3 : IntKind.i64.wrap (k : Int) = (k : Int) := by rw [IntKind.wrap_i64]; omega
    have i5 : IntKind.i64.wrap ((a : Int) + 1) = (a : Int) + 1 := by rw [IntKind.wrap_i64]; omega
    have HL := Lib.hid (gotLost_any k (by omega) (by omega) w.drew)
    have HAP : Hid (∀ W v, RowR g cap l W → W.rowIs v 3 k (fun _ => .int .i64 3) → ∃ g' c' w', (∀ ty, (Builtin.append_ #[23, 23] ty #[.slice (some ⟨g, 0, none⟩) N cap, .slice (some ⟨v, 0, none⟩) k k]).run Tryz.prog W = .ok (.slice (some ⟨g', 0, none⟩) (N + k) c') w') ∧ RowR g' c' (l ++ List.replicate k 3) w' ∧ (g' = g ∨ W.heap.size ≤ g') ∧ Kept [g] W w') := Lib.hid (fun W v h1 h2 => by
      rw [← hN]
      exact append_any l (by omega) k (by omega) (by omega) g cap v W h1 h2)
    have hka : a < N + k ∧ N + k = a + 1 ∧ k ≤ 250 := by omega
    have hlen : (l ++ List.replicate k (3 : Int)).length = N + k := by rw [List.length_append, List.length_replicate, hN]
    have hka2 : (l ++ List.replicate k (3 : Int))[a]? = some 3 := by rw [List.getElem?_append_right (by omega), List.getElem?_replicate, if_pos (by omega)]
    have HKA := Lib.hid hka
    have HLEN := Lib.hid hlen
    have HKA2 := Lib.hid hka2
    have HKE := Lib.hid hk
    clear h hN hk hlen hka2
    go_enter Tryz.func62, Tryz.ntmps62
    go_wp2
    go_region_law (first
      | (go_simp; go_at_call 98; (with_reducible refine HL.out.mono ?_); rintro e W1 ⟨v, rfl, hb1, hs1, hk1⟩; have H1 : Hid (GotR n l fu fo C g cap W1) := Lib.hid ((H.out.drewN 1).below hk1); have a2 : W1.cell? ⟨C, 1, none⟩ = some (.slice (some ⟨g, 0, none⟩) N cap) := (by rw [← HN.out]; exact H1.out.blk.cell 1); obtain ⟨g', c', W2, hap, hr2, hg2, hk2⟩ := HAP.out W1 v H1.out.row hb1)
      | (refine step_append_runI rfl (.tmp 21) (.tmp 23) 23 23 rfl (.slice (some ⟨g, 0, none⟩) N cap) (.slice (some ⟨v, 0, none⟩) k k) (by simp [Act.eval, Act.put]) (by simp [Act.eval, Act.put]) (hap _) ?_; have H2 : Hid (BlkIs (gotCellsR n (.slice (some ⟨g, 0, none⟩) l.length cap) fu fo) 91 C W2) := Lib.hid (H1.out.blk.kept hk2 (by simp; exact fun e => H1.out.ne e.symm)); have a3 : W2.cell? ⟨C, 1, none⟩ = some (.slice (some ⟨g, 0, none⟩) N cap) := (by rw [← HN.out]; exact H2.out.cell 1); have f3 := H2.out.free 1))
    all_goals (
      have hs1' : w.heap.size ≤ W1.heap.size := hk1.size
      have hC := H1.out.blk.lt
      have hne : g' ≠ C := by
        rcases hg2 with e | e
        · rw [e]; exact H.out.ne
        · omega
      obtain ⟨W3, hW3⟩ : ∃ W3, W2.setCell ⟨C, 1, none⟩ (.slice (some ⟨g', 0, none⟩) (a + 1) c') = W3 := ⟨_, rfl⟩
      have h3 : GotR n (l ++ List.replicate k 3) fu fo C g' c' W3 := by
        have h1 := H2.out.set 1 (.slice (some ⟨g', 0, none⟩) (l ++ List.replicate k (3 : Int)).length c')
        rw [HLEN.out, HKA.out.2.1, hW3] at h1
        exact ⟨by rw [HLEN.out, HKA.out.2.1]; exact h1, by rw [← hW3]; exact hr2.far hne _, hne⟩
      have hk3 : Kept [C, g] w W3 := by
        rw [← hW3]
        exact (((Kept.refl [C, g] w).drew.trans' (Kept.of_below _ hk1)).trans' (hk2.more (by simp))).setCell (.inl (by simp)) _
      have hgf : g' = g ∨ w.heap.size ≤ g' := hg2.imp id (fun e => by omega)
      rw [hW3]
      clear hW3 hk2 hr2 hk1 H1 H2 HL HAP a1 f1 a2 a3 f3 hap hb1 hg2 hka
      have c1 : W3.cell? ⟨C, 1, none⟩ = some (.slice (some ⟨g', 0, none⟩) (a + 1) c') := by have := h3.blk.cell 1; rw [HLEN.out, HKA.out.2.1] at this; exact this
      have c2 : W3.cell? ⟨g', a, none⟩ = some (.int .i64 3) := h3.row.cell a 3 HKA2.out
      have f2 := h3.row.free a
      have H3 := Lib.hid h3
      have HK3 := Lib.hid hk3
      clear h3 hk3
      go_wp2
      go_end0
      exact ⟨rfl, g', c', by rw [HN.out, HKE.out]; exact H3.out.setState a st, hgf, HK3.out.setCell (p := ⟨g', a, none⟩) (by rcases hgf with e | e; exact .inl (by simp [e]); exact .inr e) _⟩)
end Go.Proofs.YtkpginmdnlhfbaaGreatDoor

namespace Go.Proofs.YtkpginmdnlhfbaaGreatDoor
open Go.ChangeShapes Go.WideShapes Go.ChangeAt Go.RowKit
set_option linter.unusedVariables false
set_option linter.unusedSimpArgs false

theorem gotPut_fillR (n : Nat) (hn : n < 18446744073709551616) (l : List Int) (hl : 1 ≤ l.length) (hl2 : l.length ≤ 250) (fu : Nat) (hfu : fu < 18446744073709551616) (fo : Bool) (s : Nat) (hs : s < 18446744073709551616) (hf : (fo && !decide (diffI fu s < 0)) = false) (a : Nat) (ha : diffI n s = (a : Int)) (ha2 : a < 250) (ho : l.length ≤ a ∨ l[a]? = some 3) (mark : Bool)
    (C g cap : Nat) (w : World) (h : GotR n l fu fo C g cap w) :
    Calls Tryz.prog 15 #[.pointer (some ⟨C, 0, none⟩), .int .u64 s, .bool mark] w fun e w' => e = .returned (.bool true) ∧ ∃ g2 cap2, GotR n ((l ++ List.replicate (a + 1 - l.length) 3).set a (stOf mark)) fu fo C g2 cap2 w' ∧ (g2 = g ∨ w.heap.size ≤ g2) ∧ Kept [C, g] w w' := by
  have HF : Hid (Calls Tryz.prog 57 #[.pointer (some ⟨C, 0, none⟩), .int .u64 s] w fun e w' => e = .returned (.bool false) ∧ w = w') := Lib.hid (by rw [← hf]; exact gotForg_any n _ fu fo s hfu hs C w h.blk)
  have HA : Hid (Calls Tryz.prog 58 #[.pointer (some ⟨C, 0, none⟩), .int .u64 s] w fun e w' => e = .returned (.int .i64 (a : Int)) ∧ w = w') := Lib.hid (by rw [← ha]; exact gotAgeR n _ fu fo s hn hs C w h.blk)
  have HT : Hid (Calls Tryz.prog 61 #[.pointer (some ⟨C, 0, none⟩), .int .i64 (a : Int)] w fun e w' => e = .returned (.bool false) ∧ w = w') := Lib.hid (by
    rcases ho with h1 | h1
    · exact gotThere_out n l a (by omega) (by omega) (.inr (by omega)) fu fo C g cap w h
    · exact gotThere_in n l a 3 h1 fu fo C g cap w h)
  have HL := Lib.hid (gotFill_any n l hl hl2 fu fo a ha2 (stOf mark) C g cap w h)
  have a1 : w.cell? ⟨C, 1, none⟩ = some (.slice (some ⟨g, 0, none⟩) l.length cap) := h.blk.cell 1
  obtain ⟨R, hR⟩ : ∃ R, l ++ List.replicate (a + 1 - l.length) 3 = R := ⟨_, rfl⟩
  rw [hR] at HL ⊢
  obtain ⟨N, hN⟩ : ∃ N, l.length = N := ⟨_, rfl⟩
  rw [hN] at a1 hl
  have i1 : ((N : Int) == 0) = false := by rw [beq_eq_false_iff_ne]; omega
  have i2 : decide ((a : Int) < 0) = false := decide_eq_false (by omega)
  have i3 : ¬ N = 0 := by omega
  have i5 : decide ((250 : Int) ≤ (a : Int)) = false := decide_eq_false (by omega)
  have i6 : ¬ (250 : Int) ≤ (a : Int) := by omega
  have i7 : ¬ 250 ≤ a := by omega
  clear h hN ha hf ho hR
  cases mark
  all_goals
    unfold stOf at HL ⊢
    simp only [if_true, if_false, Bool.false_eq_true] at HL ⊢
    go_enter Tryz.func15, Tryz.ntmps15
    go_wp2_with (first
      | (go_at_call 57; (with_reducible refine HF.out.mono ?_); rintro e w1 ⟨rfl, rfl⟩)
      | (go_at_call 58; (with_reducible refine HA.out.mono ?_); rintro e w1 ⟨rfl, rfl⟩)
      | (go_at_call 61; (with_reducible refine HT.out.mono ?_); rintro e w1 ⟨rfl, rfl⟩)
      | (go_at_call 62; (with_reducible refine HL.out.mono ?_); rintro e w2 ⟨rfl, hh⟩))
    go_ret
    exact ⟨rfl, hh⟩
/-- States are small. -/
def stsOk (l : List Int) : Prop := ∀ v ∈ l, 0 ≤ v ∧ v ≤ 3
theorem gotCells_any (n : Nat) (l : List Int) (hl2 : l.length ≤ 250) (hs : stsOk l) (fu : Nat) (fo : Bool) (C g cap : Nat) (w : World) (h : GotR n l fu fo C g cap w) :
    Calls Tryz.prog 18 #[.pointer (some ⟨C, 0, none⟩)] w fun e w' => ∃ v, e = .returned v ∧ CelOwn w.heap.size v (ofR l) w w' := by
  have hv : I64At w (.slice (some ⟨g, 0, none⟩) l.length cap) l := ⟨⟨_, cap, rfl, h.row.cap1, h.row.cap2, fun i hi => ⟨g, 0, rfl, h.row.lt, by
    rw [Nat.zero_add]
    refine (h.row.cell i _ (List.getElem?_eq_getElem hi)).trans ?_
    rw [List.getD_eq_getElem?_getD, List.getElem?_eq_getElem hi]
    rfl⟩⟩, by omega, fun i => by
    rw [List.getD_eq_getElem?_getD]
    cases hi : l[i]? with
    | none => exact (by decide : -9223372036854775808 ≤ (0 : Int) ∧ (0 : Int) ≤ 9223372036854775807)
    | some u =>
      have := hs u (List.mem_of_getElem? hi)
      simp only [Option.getD_some]
      omega⟩
  have HV := Lib.hid (vecOf_any _ _ w hv)
  have a1 : w.cell? ⟨C, 1, none⟩ = some (.slice (some ⟨g, 0, none⟩) l.length cap) := h.blk.cell 1
  clear h hv
  go_enter Tryz.func18, Tryz.ntmps18
  go_wp2_with (go_at_call 64; (with_reducible refine HV.out.mono ?_); rintro e w1 ⟨v, rfl, h1⟩)
  go_ret
  exact ⟨v, rfl, h1⟩
end Go.Proofs.YtkpginmdnlhfbaaGreatDoor

namespace Go.Proofs.YtkpginmdnlhfbaaGreatDoor
open Go.ChangeShapes Go.WideShapes Go.ChangeAt Go.RowKit
set_option linter.unusedVariables false
set_option linter.unusedSimpArgs false

/-- The states behind the ages from 1 to i - 1. -/
def forgS (n s : Nat) (l : List Int) : Nat → List Int
  | 0 => l
  | i + 1 => if i = 0 then l else if diffI s (stepI n (-(i : Int))) < 0 then forgS n s l i else (forgS n s l i).set i 3
theorem forgS_len (n s : Nat) (l : List Int) : ∀ i, (forgS n s l i).length = l.length
  | 0 => rfl
  | i + 1 => by
    unfold forgS
    split
    · rfl
    · split
      · exact forgS_len n s l i
      · rw [List.length_set]; exact forgS_len n s l i
theorem GotR.setFu {n : Nat} {l : List Int} {fu : Nat} {fo : Bool} {C g cap : Nat} {w : World} (h : GotR n l fu fo C g cap w) (m : Nat) : GotR n l m fo C g cap (w.setCell ⟨C, 2, none⟩ (.int .u64 m)) :=
  ⟨h.blk.set 2 _, h.row.far h.ne _, h.ne⟩
theorem GotR.setFo {n : Nat} {l : List Int} {fu : Nat} {fo : Bool} {C g cap : Nat} {w : World} (h : GotR n l fu fo C g cap w) (b : Bool) : GotR n l fu b C g cap (w.setCell ⟨C, 3, none⟩ (.bool b)) :=
  ⟨h.blk.set 3 _, h.row.far h.ne _, h.ne⟩
set_option maxHeartbeats 1000000 in
theorem gotForget_first (n : Nat) (hn : n < 18446744073709551616) (l : List Int) (hl : 1 ≤ l.length) (hl2 : l.length ≤ 250) (s : Nat) (hs : s < 18446744073709551616) (y : Nat) (hy : (maxI s [s] : Int) % 281474976710656 = (y : Int)) (C g cap : Nat) (w : World) (h : GotR n l 0 false C g cap w) :
    Calls Tryz.prog 29 #[.pointer (some ⟨C, 0, none⟩), .int .u64 s] w fun e w' => e = .returned (.tuple #[]) ∧ ∃ m, GotR n ((forgS n s l l.length).take m) y true C g cap w' ∧ Trim (forgS n s l l.length) m ∧ (0 < m → ∃ v, (forgS n s l l.length)[m - 1]? = some v ∧ v ≠ 3) ∧ Kept [C, g] w w' := by
  have a2 : w.cell? ⟨C, 2, none⟩ = some (.int .u64 0) := h.blk.cell 2
  have a3 : w.cell? ⟨C, 3, none⟩ = some (.bool false) := h.blk.cell 3
  have f2 := h.blk.free 2
  have f3 := h.blk.free 3
  have H1 : Hid (GotR n l s true C g cap ((w.setCell ⟨C, 2, none⟩ (.int .u64 s)).setCell ⟨C, 3, none⟩ (.bool true))) := Lib.hid ((h.setFu s).setFo true)
  have hCl := h.blk.lt
  obtain ⟨X, hX⟩ : ∃ X, (w.setCell ⟨C, 2, none⟩ (.int .u64 s)).setCell ⟨C, 3, none⟩ (.bool true) = X := ⟨_, rfl⟩
  have hXs : X.heap.size = w.heap.size := by rw [← hX]; simp
  have HM : Hid (Calls Tryz.prog 78 #[.int .u64 s, .slice (some ⟨w.heap.size, 0, none⟩) 1 1] (X.alloc (.cells #[.int .u64 s] 22)) fun e w' => e = .returned (.int .u64 (y : Int)) ∧ X.alloc (.cells #[.int .u64 s] 22) = w') := Lib.hid (by
    rw [← hy, ← hXs]
    exact seqMax_any s hs ⟨X.heap.size, 0, none⟩ [s] 1 (by simpa using hs) (show (1 : Nat) ≤ 9223372036854775807 by decide) _ (fun i hi => by
      obtain rfl : i = 0 := by simpa using hi
      exact (BlkIs.new #[.int .u64 s] 22 X).cell 0))
  rw [hX] at H1
  have HX := Lib.hid hX
  have b2 : X.cell? ⟨C, 2, none⟩ = some (.int .u64 s) := H1.out.blk.cell 2
  have HK1 : Hid (Kept [C, g] w X) := Lib.hid (by rw [← hX]; exact ((Kept.refl [C, g] w).setCell (.inl (by simp)) _).setCell (.inl (by simp)) _)
  obtain ⟨N, hN⟩ : ∃ N, l.length = N := ⟨_, rfl⟩
  have HN := Lib.hid hN
  rw [hN] at hl hl2 ⊢
  clear hN
  clear h hy
  go_enter Tryz.func29, Tryz.ntmps29
  go_upto_region 3 with fail
  clear hX
  have g2 := H1.out.blk.free 2
  go_upto_region 4 with (go_at_call 78; (with_reducible refine HM.out.mono ?_); rintro e w3 ⟨rfl, rfl⟩)
  obtain ⟨Y, hY⟩ : ∃ Y, (X.setCell ⟨C, 2, none⟩ (.int .u64 y)).alloc (.cells #[.int .u64 s] 22) = Y := ⟨_, rfl⟩
  have H2 : Hid (GotR n (forgS n s l 1) y true C g cap Y) := Lib.hid (by rw [← hY]; exact ((H1.out.setFu y).below (bel_alloc _ _)))
  have HK2 : Hid (Kept [C, g] w Y) := Lib.hid (by rw [← hY]; exact (HK1.out.setCell (.inl (by simp)) _).alloc _)
  rw [hY]
  clear hY a2 a3 f2 f3 b2 g2 H1 HX HK1 HM hXs
  go_wp2
  go_loopw [4] (fun iv wr => ∃ i : Nat, iv = .int .i64 (i : Int) ∧ 1 ≤ i ∧ i ≤ N ∧ Hid (GotR n (forgS n s l i) y true C g cap wr) ∧ Hid (Kept [C, g] w wr)) (fun iv _ => N - (intOf iv).toNat)
  case atStart => exact ⟨1, rfl, Nat.le_refl _, hl, H2, HK2⟩
  case round =>
    clear H2 HK2
    obtain ⟨i, rfl, i1, i2, hg, hk⟩ := hrel
    have hlen : (forgS n s l i).length = N := by rw [forgS_len]; exact HN.out
    have c1 : wr.cell? ⟨C, 1, none⟩ = some (.slice (some ⟨g, 0, none⟩) N cap) := by have := hg.out.blk.cell 1; rw [hlen] at this; exact this
    have c0 : wr.cell? ⟨C, 0, none⟩ = some (.int .u64 n) := hg.out.blk.cell 0
    by_cases hi : i < N
    · have j1 : decide ((i : Int) < (N : Int)) = true := decide_eq_true (by omega)
      have j2 : IntKind.i64.wrap (-(i : Int)) = -(i : Int) := by rw [IntKind.wrap_i64]; omega
      obtain ⟨z, hz⟩ : ∃ z : Nat, stepI n (-(i : Int)) = (z : Int) := ⟨(stepI n (-(i : Int))).toNat, by unfold stepI; omega⟩
      have hzb : z < 18446744073709551616 := by unfold stepI at hz; omega
      have HAD : Hid (∀ W, Calls Tryz.prog 80 #[.int .u64 n, .int .i64 (-(i : Int))] W fun e w' => e = .returned (.int .u64 (z : Int)) ∧ W = w') := Lib.hid (fun W => by rw [← hz]; exact seqAdd_any n (-(i : Int)) hn (by omega) (by omega) W)
      have HLS := Lib.hid (fun W => seqLess_any s z hs hzb W)
      obtain ⟨v, hv⟩ : ∃ v, (forgS n s l i)[i]? = some v := ⟨_, List.getElem?_eq_getElem (by omega)⟩
      have c2 : wr.cell? ⟨g, i, none⟩ = some (.int .i64 v) := hg.out.row.cell i v hv
      have f2 := hg.out.row.free i
      have HZ := Lib.hid hz
      by_cases hd : diffI s z < 0
      · rw [decide_eq_true hd] at HLS
        have hnx : forgS n s l (i + 1) = forgS n s l i := by rw [forgS, if_neg (by omega), hz, if_pos hd]
        have HNX := Lib.hid hnx
        clear hnx hv hz
        go_wp2_with (first
          | (go_at_call 80; (with_reducible refine (HAD.out _).mono ?_); rintro e w3 ⟨rfl, rfl⟩)
          | (go_at_call 79; (with_reducible refine (HLS.out _).mono ?_); rintro e w4 ⟨rfl, rfl⟩))
        refine ⟨⟨i + 1, by go_num, by omega, by omega, Lib.hid (by rw [HNX.out]; exact hg.out), hk⟩, ?_⟩
        simp [intOf]; omega
      · rw [decide_eq_false hd] at HLS
        have hnx : forgS n s l (i + 1) = (forgS n s l i).set i 3 := by rw [forgS, if_neg (by omega), hz, if_neg hd]
        have HNX := Lib.hid hnx
        clear hnx hv hz
        go_wp2_with (first
          | (go_at_call 80; (with_reducible refine (HAD.out _).mono ?_); rintro e w3 ⟨rfl, rfl⟩)
          | (go_at_call 79; (with_reducible refine (HLS.out _).mono ?_); rintro e w4 ⟨rfl, rfl⟩))
        refine ⟨⟨i + 1, by go_num, by omega, by omega, Lib.hid (by rw [HNX.out]; exact hg.out.setState i 3), Lib.hid (hk.out.setCell (p := ⟨g, i, none⟩) (.inl (by simp)) _)⟩, ?_⟩
        simp [intOf]; omega
    · have j1 : decide ((i : Int) < (N : Int)) = false := decide_eq_false (by omega)
      obtain rfl : i = N := by omega
      have HTR := Lib.hid (gotTrim_any n _ y true C g cap wr hg.out)
      go_wp2_with (go_at_call 81; (with_reducible refine HTR.out.mono ?_); rintro e w5 ⟨rfl, m, ht1, ht2, h5, hk5⟩)
      go_end0
      exact ⟨rfl, m, h5, ht1, ht2, hk.out.trans' (hk5.more (by simp))⟩
/-- What was forgotten is put no more. -/
theorem gotPut_forg (n : Nat) (v : Value) (fu : Nat) (hfu : fu < 18446744073709551616) (fo : Bool) (s : Nat) (hs : s < 18446744073709551616) (hf : (fo && !decide (diffI fu s < 0)) = true) (mark : Bool) (C : Nat) (w : World) (h : BlkIs (gotCellsR n v fu fo) 91 C w) :
    Calls Tryz.prog 15 #[.pointer (some ⟨C, 0, none⟩), .int .u64 s, .bool mark] w fun e w' => e = .returned (.bool false) ∧ w = w' := by
  have HF : Hid (Calls Tryz.prog 57 #[.pointer (some ⟨C, 0, none⟩), .int .u64 s] w fun e w' => e = .returned (.bool true) ∧ w = w') := Lib.hid (by rw [← hf]; exact gotForg_any n _ fu fo s hfu hs C w h)
  clear h hf
  go_enter Tryz.func15, Tryz.ntmps15
  go_wp2_with (go_at_call 57; (with_reducible refine HF.out.mono ?_); rintro e w1 ⟨rfl, rfl⟩)
  go_ret
  exact ⟨rfl, rfl⟩
theorem gotNewest_any (n : Nat) (l : List Int) (hl : 1 ≤ l.length) (fu : Nat) (fo : Bool) (C g cap : Nat) (w : World) (h : GotR n l fu fo C g cap w) :
    Calls Tryz.prog 31 #[.pointer (some ⟨C, 0, none⟩)] w fun e w' => e = .returned (.tuple #[.int .u64 n, .bool true]) ∧ w = w' := by
  have c1 : w.cell? ⟨C, 1, none⟩ = some (.slice (some ⟨g, 0, none⟩) l.length cap) := h.blk.cell 1
  have c0 : w.cell? ⟨C, 0, none⟩ = some (.int .u64 n) := h.blk.cell 0
  generalize l.length = N at *
  have i1 : ((N : Int) == 0) = false := by rw [beq_eq_false_iff_ne]; omega
  have i2 : ¬ N = 0 := by omega
  clear h
  go_enter Tryz.func31, Tryz.ntmps31
  go_wp2
  go_ret2
  exact ⟨rfl, rfl⟩
end Go.Proofs.YtkpginmdnlhfbaaGreatDoor
