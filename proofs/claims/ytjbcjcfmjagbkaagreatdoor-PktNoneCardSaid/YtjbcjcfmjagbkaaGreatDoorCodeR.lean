/-
  The library's builder, walked by hand; code.Reason.
-/
import Derived.Test.YtjbcjcfmjagbkaaGreatDoorCodeA
import Derived.Test.YtjbcjcfmjagbkaaGreatDoorShelf2
import Derived.Shelf.Strings.BuilderRune
namespace Go.Proofs.YtjbcjcfmjagbkaaGreatDoor
open Go.ChangeShapes Go.WideShapes Go.ChangeAt Go.RowKit
set_option linter.unusedVariables false

set_option maxHeartbeats 1000000 in
set_option maxRecDepth 100000 in
theorem copyCheck_fresh (b : Nat) (w : World) (h0 : w.cell? ⟨b, 0, none⟩ = some (.pointer none)) (hsh : w.shape? b = some (104, 2)) (hfz : w.frozen? ⟨b, 0, none⟩ = false) :
    Calls Tryz.prog 118 #[.pointer (some ⟨b, 0, none⟩)] w fun e w' => e = .returned (.tuple #[]) ∧ w' = w.setCell ⟨b, 0, none⟩ (.pointer (some ⟨b, 0, none⟩)) := by
  obtain ⟨j, hj, hjs⟩ := Option.map_eq_some_iff.1 (show (Tryz.prog.info? 104).map (·.size) = some 2 by kernel_rfl)
  go_enter Tryz.func118, Tryz.ntmps118
  go_wp2
  rw [Lib.run_to_unsafe w ⟨b, 0, none⟩ Tryz.underlying102 Tryz.underlying156 hj (by rw [hjs]; decide) hsh (Nat.zero_lt_succ 1)]
  simp only [Result.andThen]
  rw [Oper.upon_value]
  go_wp2
  rw [run_callFunc_extern Tryz.func135 (by kernel_rfl) (by kernel_rfl) (by kernel_rfl) (e := Extern.AbiNoEscape.same) (by kernel_rfl)]
  rw [Lib.run_noEscape]
  simp only [Result.andThen]
  rw [Oper.upon_value]
  go_wp2
  rw [Lib.run_from_unsafe w ⟨b, 0, none⟩ Tryz.underlying156 Tryz.underlying102 hj hsh (by kernel_rfl)]
  simp only [Result.andThen]
  rw [Oper.upon_value]
  go_wp2
  go_end0
  exact ⟨rfl, rfl⟩
set_option maxHeartbeats 1000000 in
set_option maxRecDepth 100000 in
theorem copyCheck_used (b : Nat) (w : World) (h0 : w.cell? ⟨b, 0, none⟩ = some (.pointer (some ⟨b, 0, none⟩))) :
    Calls Tryz.prog 118 #[.pointer (some ⟨b, 0, none⟩)] w fun e w' => e = .returned (.tuple #[]) ∧ w' = w := by
  obtain ⟨j, hj, hjs⟩ := Option.map_eq_some_iff.1 (show (Tryz.prog.info? 104).map (·.size) = some 2 by kernel_rfl)
  go_enter Tryz.func118, Tryz.ntmps118
  go_wp2
  rw [Lib.run_neq_ptr_same w _ Tryz.underlying102 hj]
  go_wp2
  go_end0
  exact ⟨rfl, rfl⟩
theorem copyCheck_any (B b : Nat) (bs : List Value) (w : World) (h : Lib.IsBuilderF 104 5 B b bs w) :
    Calls Tryz.prog 118 #[.pointer (some ⟨b, 0, none⟩)] w fun e w' => e = .returned (.tuple #[]) ∧ (Lib.BuilderAtF 104 5 B b (.pointer (some ⟨b, 0, none⟩)) bs w' ∧ Below B w w' ∧ Lib.OthersKept 5 (some b) w w') := by
  rcases h with h | h
  · refine (copyCheck_fresh b w h.cell0 h.shape h.frozen0).mono ?_
    rintro e w' ⟨rfl, rfl⟩
    exact ⟨rfl, h.used _, (Below.refl B w).setCell (p := ⟨b, 0, none⟩) h.1 _, (Lib.OthersKept.refl _ _ w).setCell ⟨b, 0, none⟩ rfl _⟩
  · refine (copyCheck_used b w h.cell0).mono ?_
    rintro e w' ⟨rfl, rfl⟩
    exact ⟨rfl, h, Below.refl B _, Lib.OthersKept.refl _ _ _⟩

set_option maxHeartbeats 4000000 in
set_option maxRecDepth 100000 in
theorem writeRune_any (B b : Nat) (bs : List Value) (r : Int) (hr0 : -2147483648 ≤ r) (hr1 : r ≤ 2147483647) (w : World) (h : Lib.IsBuilderF 104 5 B b bs w) (hlen : bs.length + 4 ≤ 140737488355328) (hBw : B ≤ w.heap.size) :
    Calls Tryz.prog 83 #[.pointer (some ⟨b, 0, none⟩), .int .i32 r] w fun e w' => e = .returned (.tuple #[.int .i64 (Lib.runeCells r).length, .nilIface]) ∧ (Lib.BuilderAtF 104 5 B b (.pointer (some ⟨b, 0, none⟩)) (bs ++ Lib.runeCells r) w' ∧ Below B w w' ∧ Lib.OthersKept 5 (some b) w w') := by
  have hk4 := Lib.runeCells_le r
  go_enter Tryz.func83, Tryz.ntmps83
  go_wp2_with (go_at_call 118; refine (copyCheck_any B b bs _ h).mono ?_)
  rintro e w1 ⟨rfl, h1, hb1, hk1⟩
  obtain ⟨hB, v, hbk, hown, hne⟩ := h1
  obtain ⟨ao, cap, rfl⟩ : ∃ ao cap, v = .slice ao bs.length cap := by
    rcases hown.2 with ⟨hv, h0⟩ | ⟨g, cap, cur, fz, hv, _⟩
    · exact ⟨none, 0, by rw [hv, h0]⟩
    · exact ⟨_, _, hv⟩
  have c0 : w1.cell? ⟨b, 0, none⟩ = some (.pointer (some ⟨b, 0, none⟩)) := by rw [Lib.cell_of_heap hbk]; rfl
  have c1 : w1.cell? ⟨b, 1, none⟩ = some (.slice ao bs.length cap) := by rw [Lib.cell_of_heap hbk]; rfl
  go_wp2_with (go_at_call 119; refine (Tryz.utf8_AppendRune_row B _ bs.length bs r hr0 hr1 _ hown hlen (by have := hb1.size; omega)).mono ?_)
  rintro e w2 ⟨v', rfl, hown', o, hgrow⟩
  have hlt : b < w1.heap.size := by
    rcases Nat.lt_or_ge b w1.heap.size with h' | h'
    · exact h'
    · simp [Array.getElem?_eq_none h'] at hbk
  have hb2 : w2.heap[b]? = some (.cells #[.pointer (some ⟨b, 0, none⟩), .slice ao bs.length cap] 104 (0, 0)) := by
    rw [hgrow.block b (by simp; omega) (fun e => hne e.symm), Lib.alloc_old w1 _ b hlt]
    exact hbk
  have d0 : w2.cell? ⟨b, 0, none⟩ = some (.pointer (some ⟨b, 0, none⟩)) := by rw [Lib.cell_of_heap hb2]; rfl
  have d1 : w2.cell? ⟨b, 1, none⟩ = some (.slice ao bs.length cap) := by rw [Lib.cell_of_heap hb2]; rfl
  have f1 : w2.frozen? ⟨b, 1, none⟩ = false := Lib.frozen_of_heap hb2 1
  obtain ⟨g, cap', rfl⟩ : ∃ g cap', v' = .slice (some ⟨g, 0, none⟩) (bs.length + (Lib.runeCells r).length) cap' := by
    rcases hown'.2 with ⟨_, h0⟩ | ⟨g, cap', cur, fz, hv, _⟩
    · omega
    · exact ⟨g, cap', hv⟩
  go_wp2
  go_ret2
  refine ⟨?_, ?_, ?_, ((hk1.alloc _).grown hgrow (Lib.ownsRowF_kind (hown.alloc _))).setCell ⟨b, 1, none⟩ rfl _⟩
  · have e : ((bs.length : Int) + ((Lib.runeCells r).length : Int) - (bs.length : Int)) = ((Lib.runeCells r).length : Int) := by omega
    simp [e]
  · exact Lib.BuilderAtF.put (T := 104) (e := 5) hB hb2 (bs' := bs ++ Lib.runeCells r) (by simpa using hown') (by decide)
  · exact ((hb1.alloc (by have := hb1.size; omega) _).grown hgrow (by have := hb1.size; simp; omega) (fun k hk => (hown.lt k hk).1)).setCell (p := ⟨b, 1, none⟩) hB _

theorem reason_step {l : List UInt8} {pos R W : Nat} {q : Int} (hq : 1 ≤ q) (hp : pos < l.length) (hd : Lib.decodeL (l.drop pos) = (R, W)) :
    1 ≤ W ∧ pos + W ≤ l.length ∧ (M.runes (l.drop pos)).take q.toNat = R :: (M.runes (l.drop (pos + W))).take (q - 1).toNat := by
  have hne : l.drop pos ≠ [] := by
    intro hh
    have := congrArg List.length hh
    rw [List.length_drop, List.length_nil] at this; omega
  have hw := M.decode_wide _ hne
  have hs := M.runes_step _ hne
  rw [hd] at hw hs
  dsimp only at hw hs
  rw [List.length_drop] at hw
  rw [List.drop_drop] at hs
  refine ⟨hw.1, by omega, ?_⟩
  obtain ⟨n, hn⟩ : ∃ n : Nat, q.toNat = n + 1 := ⟨q.toNat - 1, by omega⟩
  rw [hs, hn, List.take_succ_cons, show (q - 1).toNat = n by omega]
def rB (acc : List Nat) : List UInt8 := M.encs (acc.map M.shown)
theorem rB_snoc (acc : List Nat) (r : Nat) : rB (acc ++ [r]) = rB acc ++ M.enc (M.shown r) := by
  unfold rB
  rw [List.map_append, M.encs_append]
  simp [M.encs]
theorem rB_len (acc : List Nat) : (rB acc).length ≤ 4 * acc.length := by
  unfold rB
  have := M.encs_len (acc.map M.shown)
  rwa [List.length_map] at this

set_option maxHeartbeats 4000000 in
set_option maxRecDepth 100000 in
theorem codeReason_any (l : List UInt8) (m : Int) (hl : l.length ≤ 1000000000) (m1 : -9223372036854775808 ≤ m) (m2 : m ≤ 9223372036854775807) (w : World) :
    Calls Tryz.prog 34 #[.string (str l), .int .i64 m] w fun e w' => e = .returned (.string (str (M.reason l m.toNat))) ∧ Below w.heap.size w w' := by
  have HR : Hid (M.reason l m.toNat = rB ((M.runes l).take m.toNat)) := Lib.hid rfl
  obtain ⟨s, hs⟩ : ∃ s, str l = s := ⟨_, rfl⟩
  have hsz : s.size = l.length := by rw [← hs]; rfl
  have hdec : ∀ pos, Utf8.decode s pos = Lib.decodeL (l.drop pos) := fun pos => by rw [← hs]; exact (Lib.decodeL_drop (str l) pos).symm
  rw [hs]
  have HD := Lib.hid hdec; have HSZ := Lib.hid hsz
  clear hs hdec hsz
  go_enter Tryz.func34, Tryz.ntmps34
  go_wp2
  go_loopw [1] (fun a wr => ∃ (pos : Nat) (q : Int) (acc : List Nat), a = .int .i64 q ∧ Hid (Lib.IsBuilderF 104 5 w.heap.size w.heap.size (Lib.byteCells (rB acc)) wr) ∧ wr.heap[w.heap.size + 1]? = some (.stringIter s pos) ∧ Hid (Below w.heap.size w wr) ∧ Hid (acc ++ (M.runes (l.drop pos)).take q.toNat = (M.runes l).take m.toNat) ∧ acc.length ≤ pos ∧ pos ≤ l.length ∧ -9223372036854775808 ≤ q ∧ q ≤ 9223372036854775807) (fun _ wr => s.size - wr.iterPos (w.heap.size + 1))
  case atStart =>
    refine ⟨0, m, [], rfl, Lib.hid ((Lib.IsBuilderF.of (Lib.fresh_isBuilder 104 5 w)).alloc _), ?_, Lib.hid (((Below.refl _ w).alloc (Nat.le_refl _) _).alloc (by simp) _), Lib.hid rfl, Nat.le_refl _, Nat.zero_le _, m1, m2⟩
    have := World.iter_heap (w.alloc (.cells #[.pointer none, .slice none 0 0] 104)) s 0
    simpa using this
  case round =>
    obtain ⟨pos, q, acc, rfl, hI, hit, hbw, hacc, hal, hpl, q1, q2⟩ := hrel
    have hsz : w.heap.size + 1 < wr.heap.size := (Array.getElem?_eq_some_iff.1 hit).1
    have hrl := rB_len acc
    by_cases hp : pos < s.size
    · have hnx : ∀ ty, (Instr.next (.pointer (some ⟨w.heap.size + 1, 0, none⟩)) true ty).run Tryz.prog wr = _ := fun ty => Lib.run_next_any_at wr (w.heap.size + 1) s pos ty hit hp
      obtain ⟨R, W, hRW⟩ : ∃ R W, Utf8.decode s pos = (R, W) := ⟨_, _, rfl⟩
      have hR := decode_le s pos
      rw [hRW] at hnx hR
      dsimp only at hnx hR
      have hd2 : Lib.decodeL (l.drop pos) = (R, W) := by rw [← HD.out]; exact hRW
      have hI2 := Lib.hid (hI.out.iterAt hit (pos + W))
      have hit2 := Lib.iterAt_heap wr (w.heap.size + 1) s pos (pos + W) hit
      have hbw2 := Lib.hid (Lib.below_iterAt hbw.out (k := w.heap.size + 1) (by omega) s (pos + W))
      have hsz2 : w.heap.size + 1 < (wr.iterAt (w.heap.size + 1) s (pos + W)).heap.size := by rw [Lib.iterAt_size]; exact hsz
      have HPW := Lib.hid (show pos < l.length by rw [← HSZ.out]; exact hp)
      have HSH := Lib.hid (fun w => shown_any R hR w)
      clear hRW hI hbw
      generalize wr.iterAt (w.heap.size + 1) s (pos + W) = w5 at *
      by_cases hq : q ≤ 0
      · have ha := hacc.out
        rw [show q.toNat = 0 by omega, List.take_zero, List.append_nil] at ha
        have HA := Lib.hid ha
        have dq : decide (q ≤ 0) = true := decide_eq_true hq
        clear hacc ha hd2
        go_wp2_with (go_at_call 85; (with_reducible refine (Tryz.Builder_String_any_k w.heap.size w.heap.size (rB acc) _ hI2.out (by omega)).mono ?_); rintro e W1 ⟨rfl, _, b1, _⟩)
        go_ret
        rw [HR.out, ← HA.out]
        exact ⟨rfl, hbw2.out.trans b1⟩
      · obtain ⟨w1, w2, hst⟩ := reason_step (q := q) (by omega) HPW.out hd2
        have ha := hacc.out
        rw [hst] at ha
        have HA : Hid ((acc ++ [R]) ++ (M.runes (l.drop (pos + W))).take (q - 1).toNat = (M.runes l).take m.toNat) := Lib.hid (by rw [List.append_assoc]; exact ha)
        have dq : decide (q ≤ 0) = false := decide_eq_false hq
        have HMS := Lib.hid (show s.size - (pos + W) < s.size - pos by omega)
        have HW2 := Lib.hid w2; have HW1 := Lib.hid w1
        have hsR : M.shown R ≤ 2147483647 := by unfold M.shown; split <;> omega
        have hcl : (Lib.byteCells (rB acc)).length + 4 ≤ 140737488355328 := by rw [Lib.byteCells_length]; omega
        clear hacc ha hst w1 w2 hd2
        generalize hrr : M.shown R = R2 at *
        have HRR := Lib.hid hrr
        clear hrr
        go_wp2_with (first
          | (go_at_call 84; (with_reducible refine (HSH.out _).mono ?_); rintro e w6 ⟨rfl, rfl⟩)
          | (go_at_call 83; (with_reducible refine (writeRune_any w.heap.size w.heap.size _ _ (by omega) (by omega) _ hI2.out hcl (by omega)).mono ?_); rintro e W1 ⟨rfl, h1, b1, k1⟩))
        have hit3 := k1.iter hit2 (by omega)
        refine ⟨⟨pos + W, q - 1, acc ++ [R], ?_, Lib.hid ?_, hit3, Lib.hid (hbw2.out.trans b1), HA, by have := HW1.out; simp; omega, HW2.out, by omega, by omega⟩, ?_⟩
        · first | rfl | go_num
        · rw [rB_snoc, HRR.out, Lib.byteCells_append]
          have e : Lib.byteCells (M.enc R2) = Lib.runeCells (R2 : Int) := Lib.byteCells_encodeRune _
          rw [e]
          exact Or.inr h1
        · simp only [World.iterPos, hit3, hit]; exact HMS.out
    · have hnx : ∀ ty, (Instr.next (.pointer (some ⟨w.heap.size + 1, 0, none⟩)) true ty).run Tryz.prog wr = _ := fun ty => Lib.run_next_end_at wr (w.heap.size + 1) s pos ty hit hp
      have hnil : l.drop pos = [] := List.drop_eq_nil_of_le (by rw [← HSZ.out]; omega)
      have ha := hacc.out
      rw [hnil, M.runes_nil, List.take_nil, List.append_nil] at ha
      have HA := Lib.hid ha
      clear hacc ha hnil
      go_wp2_with (go_at_call 85; (with_reducible refine (Tryz.Builder_String_any_k w.heap.size w.heap.size (rB acc) _ hI.out (by omega)).mono ?_); rintro e W1 ⟨rfl, _, b1, _⟩)
      go_ret
      rw [HR.out, ← HA.out]
      exact ⟨rfl, hbw.out.trans b1⟩
end Go.Proofs.YtjbcjcfmjagbkaaGreatDoor
