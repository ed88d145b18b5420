/-
  Numbers as bytes, and back: opt.Number, opt.Bytes, the document's own Number.
-/
import Derived.Test.YtnhlachoimlhhaaGreatDoorHdB
import Derived.Test.YtnhlachoimlhhaaGreatDoorOpA
import Derived.OwnWalk
namespace Go.Proofs.YtnhlachoimlhhaaGreatDoor
open Go.ChangeShapes Go.WideShapes Go.ChangeAt Go.RowKit
set_option linter.unusedVariables false
set_option linter.unusedSimpArgs false

theorem optNumber_no (l : List UInt8) (h : l.length < 1 ∨ 8 < l.length) (hl : l.length ≤ 9223372036854775807) (w : World) :
    Calls Tryz.prog 157 #[.string (str l)] w fun e w' => e = .returned (.tuple #[.int .u64 0, .bool false]) ∧ w = w' := by
  have hsz : (str l).size = l.length := rfl
  have h1 : (str l).size < 1 ∨ 8 < (str l).size := by omega
  have h2 : (str l).size ≤ 9223372036854775807 := by omega
  clear hsz h hl
  generalize str l = s at *
  rcases h1 with h1 | h1
  · go_enter Tryz.func157, Tryz.ntmps157
    go_wp2
    go_ret2
    exact ⟨rfl, rfl⟩
  · have h3 : ¬ s.size < 1 := by omega
    go_enter Tryz.func157, Tryz.ntmps157
    go_wp2
    go_ret2
    exact ⟨rfl, rfl⟩

theorem ret_num {a b : Nat} (h : a = b) : Ending.returned (.tuple #[.int .u64 (b : Int), .bool true]) = .returned (.tuple #[.int .u64 (a : Int), .bool true]) := by rw [h]
theorem ret_u64 {a b : Nat} (h : a = b) : Ending.returned (.int .u64 (b : Int)) = .returned (.int .u64 (a : Int)) := by rw [h]

theorem optNumber_yes (l : List UInt8) (h0 : 1 ≤ l.length) (h8 : l.length ≤ 8) (w : World) :
    Calls Tryz.prog 157 #[.string (str l)] w fun e w' => e = .returned (.tuple #[.int .u64 (beNum l), .bool true]) ∧ w = w' := by
  have hss : (str l).size = l.length := rfl
  obtain ⟨s, hs⟩ : ∃ s, str l = s := ⟨_, rfl⟩
  have hbt : ∀ i (h : i < s.size), (l.take (i + 1)) = l.take i ++ [s[i]] := by
    subst hs
    intro i h
    exact M.bytes_take (str l) i h
  rw [hs] at hss ⊢
  have hn1 : ¬ s.size < 1 := by omega
  have hn8 : s.size ≤ 8 := by omega
  have HSS := Lib.hid hss; have HBT := Lib.hid hbt; have HL := Lib.hid h8
  clear hs hss hbt h0 h8
  go_enter Tryz.func157, Tryz.ntmps157
  go_wp2
  go_loop [4, 16] (fun u i => ∃ j : Nat, j ≤ s.size ∧ u = .int .u64 (beNum (l.take j)) ∧ i = .int .i64 j) (fun _ i => s.size - (intOf i).toNat)
  case atStart => exact ⟨0, Nat.zero_le _, rfl, rfl⟩
  case round =>
    obtain ⟨j, hj, rfl, rfl⟩ := hrel
    by_cases hjk : j < s.size
    · have hb := beNum_snoc (l.take j) s[j]
      have hb2 : (s[j]).toNat < 256 := (s[j]).toNat_lt
      rw [← HBT.out j hjk] at hb
      have hlt := beNum_lt8 (l := l.take j) 7 (by rw [List.length_take]; omega)
      have hor := or_byte (beNum (l.take j)) s[j] (by omega)
      generalize beNum (l.take j) = n at *
      have HB := Lib.hid hb; clear hb
      go_wp2
      go_round
      case rel => exact ⟨j + 1, by omega, by rw [HB.out]; simp, by go_num⟩
      case measure => simp [intOf]; omega
    · obtain rfl : j = s.size := by omega
      have hall : beNum (l.take s.size) = beNum l := by rw [HSS.out, List.take_length]
      generalize beNum (l.take s.size) = n at *
      have HBN := Lib.hid hall; clear hall
      go_wp2
      go_ret2
      exact ⟨ret_num HBN.out.symm, rfl⟩

theorem refNumber_any (l : List UInt8) (h8 : l.length ≤ 8) (w : World) :
    Calls Tryz.prog 107 #[.string (str l)] w fun e w' => e = .returned (.int .u64 (beNum l)) ∧ w = w' := by
  have hss : (str l).size = l.length := rfl
  obtain ⟨s, hs⟩ : ∃ s, str l = s := ⟨_, rfl⟩
  have hbt : ∀ i (h : i < s.size), (l.take (i + 1)) = l.take i ++ [s[i]] := by
    subst hs
    intro i h
    exact M.bytes_take (str l) i h
  rw [hs] at hss ⊢
  have hn8 : s.size ≤ 8 := by omega
  have HSS := Lib.hid hss; have HBT := Lib.hid hbt; have HL := Lib.hid h8
  clear hs hss hbt h8
  go_enter Tryz.func107, Tryz.ntmps107
  go_wp2
  go_loop [3, 4] (fun u i => ∃ j : Nat, j ≤ s.size ∧ u = .int .u64 (beNum (l.take j)) ∧ i = .int .i64 j) (fun _ i => s.size - (intOf i).toNat)
  case atStart => exact ⟨0, Nat.zero_le _, rfl, rfl⟩
  case round =>
    obtain ⟨j, hj, rfl, rfl⟩ := hrel
    by_cases hjk : j < s.size
    · have hb := beNum_snoc (l.take j) s[j]
      have hb2 : (s[j]).toNat < 256 := (s[j]).toNat_lt
      rw [← HBT.out j hjk] at hb
      have hlt := beNum_lt8 (l := l.take j) 7 (by rw [List.length_take]; omega)
      generalize beNum (l.take j) = n at *
      have HB := Lib.hid hb; clear hb
      go_wp2
      go_round
      case rel => exact ⟨j + 1, by omega, by rw [HB.out]; simp, by go_num⟩
      case measure => simp [intOf]; omega
    · obtain rfl : j = s.size := by omega
      have hall : beNum (l.take s.size) = beNum l := by rw [HSS.out, List.take_length]
      generalize beNum (l.take s.size) = n at *
      have HBN := Lib.hid hall; clear hall
      go_wp2
      go_ret
      exact ⟨ret_u64 HBN.out.symm, rfl⟩

/-- A byte of a row that is written. -/
theorem row_set {w : World} {g cap : Nat} {l : List UInt8} (h : rowAt w g cap l) (p : Nat) (b : UInt8) (c : Int) (hc : c = (b.toNat : Int)) (hp : p < l.length) : rowAt (w.setCell ⟨g, p, none⟩ (.int .u8 c)) g cap (l.set p b) := by
  subst hc
  have hlt := row_lt h
  unfold rowAt at h ⊢
  obtain ⟨hlen, h | ⟨g', cap', cur, e, hg, hh, h1, h2, h3, h4⟩⟩ := h
  · obtain ⟨h, _⟩ := h
    injection h with h _; cases h
  · injection e with e1 _ e2
    injection e1 with e1
    injection e1 with e1
    subst e1; subst e2
    obtain ⟨_, hk⟩ := Array.getElem?_eq_some_iff.1 hh
    refine ⟨by simp, .inr ⟨g, cap, cur.setIfInBounds p (byteV b), by rw [List.length_set], hg, ?_, by rw [List.length_set]; exact h1, h2, by simpa using h3, ?_⟩⟩
    · show (w.heap.modify g _)[g]? = _
      rw [Array.getElem?_eq_getElem (by rw [Array.size_modify]; exact hlt), Array.getElem_modify_self, hk]
      rfl
    · rw [Array.toList_setIfInBounds, List.take_set, List.length_set, h4, List.map_set]

theorem beBytes_succ (j n : Nat) : beBytes (j + 1) n = UInt8.ofNat (n / 256 ^ j % 256) :: beBytes j n := rfl
theorem nil_byte (k j n : Nat) (hj : j < k) : (List.replicate (k - j) (0 : UInt8) ++ beBytes j n).set (k - 1 - j) (UInt8.ofNat (n / 256 ^ j % 256)) = List.replicate (k - (j + 1)) 0 ++ beBytes (j + 1) n := by
  have e : List.replicate (k - j) (0 : UInt8) = List.replicate (k - (j + 1)) 0 ++ [0] := by
    rw [← List.replicate_succ']
    congr 1
    omega
  rw [e, List.append_assoc, beBytes_succ, show k - 1 - j = (List.replicate (k - (j + 1)) (0 : UInt8)).length + 0 by simp; omega, List.set_append_right _ _ (by omega)]
  simp

theorem beNum_be (k n : Nat) : beNum (beBytes k n) = n % 256 ^ k := by
  have h : ∀ k a, (beBytes k n).foldl (fun n b => n * 256 + b.toNat) a = a * 256 ^ k + n % 256 ^ k := by
    intro k
    induction k with
    | zero => intro a; simp [beBytes, Nat.mod_one]
    | succ k ih =>
      intro a
      rw [beBytes_succ, List.foldl_cons, ih, Nat.pow_succ, UInt8.toNat_ofNat', Nat.mod_eq_of_lt (show n / 256 ^ k % 256 < 2 ^ 8 from Nat.mod_lt _ (by decide))]
      have e := Nat.mod_mul (x := n) (a := 256 ^ k) (b := 256)
      rw [e, Nat.add_mul]
      rw [Nat.mul_assoc, Nat.mul_comm 256 (256 ^ k), Nat.mul_comm (n / 256 ^ k % 256) (256 ^ k)]
      omega
  have := h k 0
  rwa [Nat.zero_mul, Nat.zero_add] at this

/-- 'make([]byte, k)' as a row. -/
theorem wp_row {ops : Array Oper} {rest : List Oper} {o : Oper} {a : Act} {Q : Exit → Act → World → Prop} (hgd : o.guard = none) (l c : Operand) (ho : o.op = Op.makeSlice 90 l c)
    (w : World) (kl kc : IntKind) (L : Int) (n : Nat) (hl : a.eval l = .int kl L) (hc : a.eval c = .int kc L) (hL : L = (n : Int)) (hn : n ≤ 1000000)
    (h : ∀ w' H, H = w.heap.size → H < w'.heap.size → Below w.heap.size w w' → rowAt w' H n (List.replicate n 0) → wpList Tryz.prog ops Q rest (a.put o.dst (.slice (some ⟨H, 0, none⟩) n n)) w') :
    wpList Tryz.prog ops Q (o :: rest) a w := by
  obtain ⟨i0, hi, hz0, hz1, hz2⟩ := info_parts infoU8
  refine wpList_make_full w hgd l c 90 ho w.heap.size 5 i0 (.int .u8 0) 1 Tryz.underlying90 hi hz0 hz1 kl kc L L n hl hc hL hL (by rw [hz2]; omega) (by unfold maxLen; omega) (Nat.le_refl _) (fun w' hrow hg => ?_)
  have e : (madeCells (Value.int .u8 0).cells (n * 1)).toList = (List.replicate n (0 : UInt8)).map byteV := by
    rw [List.map_replicate]
    apply List.ext_getElem
    · simp [madeCells]
    · intro i h1 h2
      have e1 : i % 1 = 0 := Nat.mod_one i
      simp [madeCells, Value.cells, byteV, e1]
  have hr : rowAt w' w.heap.size n (List.replicate n 0) := by
    unfold rowAt
    rw [List.length_replicate, ← e]
    obtain ⟨h0, h | ⟨g', cap', cur, e, hg, hh, h1, h2, h3, h4⟩⟩ := hrow
    · obtain ⟨h, _⟩ := h
      injection h with h _; cases h
    · exact ⟨h0, .inr ⟨g', cap', cur, e, Nat.zero_le _, hh, h1, h2, h3, h4⟩⟩
  exact h w' w.heap.size rfl (row_lt hr) ⟨hg.os, hg.tape, hg.output, hg.size, fun k hk => hg.block k hk (by simp)⟩ hr

theorem row_cell {w : World} {g cap : Nat} {l : List UInt8} (h : rowAt w g cap l) (j : Nat) (hj : j < l.length) : w.cell? ⟨g, j, none⟩ = some (byteV l[j]) := by
  rw [World.ownsRow.cellAt h j (by omega)]
  simp [hj]
theorem row_free {w : World} {g cap : Nat} {l : List UInt8} (h : rowAt w g cap l) (j : Nat) : w.frozen? ⟨g, j, none⟩ = false := World.ownsRow.frozenAt h j

theorem optBytes_no (n k : Int) (h : k < 1 ∨ 8 < k) (w : World) :
    Calls Tryz.prog 89 #[.int .u64 n, .int .i64 k] w fun e w' => e = .returned (.string (str [])) ∧ w = w' := by
  rcases h with h | h
  · go_enter Tryz.func89, Tryz.ntmps89
    go_wp2
    go_ret
    exact ⟨rfl, rfl⟩
  · have h3 : ¬ k < 1 := by omega
    go_enter Tryz.func89, Tryz.ntmps89
    go_wp2
    go_ret
    exact ⟨rfl, rfl⟩

set_option maxHeartbeats 1000000 in
theorem optBytes_yes (n k : Nat) (h0 : 1 ≤ k) (h8 : k ≤ 8) (hn : n < 18446744073709551616) (w : World) :
    Calls Tryz.prog 89 #[.int .u64 n, .int .i64 k] w fun e w' => e = .returned (.string (str (beBytes k n))) ∧ Below w.heap.size w w' := by
  have h3 : ¬ k < 1 := by omega
  have h4 : ¬ 8 < k := by omega
  go_enter Tryz.func89, Tryz.ntmps89
  go_wp2_with (at_make; refine wp_row rfl _ _ rfl _ _ _ _ k rfl rfl rfl (by omega) ?_; rintro w1 _ rfl hgl hb1 hr1)
  go_loopw [0, 6] (fun u i wr => ∃ (j m : Nat) (x : Int), j ≤ k ∧ u = .int .u64 m ∧ i = .int .i64 x ∧ m < 18446744073709551616 ∧ Hid (x = (k : Int) - 1 - j) ∧ Hid (m = n / 256 ^ j) ∧ Below w.heap.size w wr ∧ Hid (rowAt wr w.heap.size k (List.replicate (k - j) 0 ++ beBytes j n))) (fun _ i _ => (intOf i + 1).toNat)
  case atStart => exact ⟨0, n, _, Nat.zero_le _, rfl, rfl, hn, Lib.hid (by simp), Lib.hid (by simp), hb1, Lib.hid (by simpa [beBytes] using hr1)⟩
  case round =>
    obtain ⟨j, m, x, hj, rfl, rfl, hm, hx, hmn, hbr, hrow⟩ := hrel
    by_cases hjk : j < k
    · obtain ⟨p, hp⟩ : ∃ p : Nat, p = k - 1 - j := ⟨_, rfl⟩
      have hxp : x = (p : Int) := by rw [hx.out]; omega
      have HP := Lib.hid hp
      have hpk : p < k := by omega
      have hpl : p < (List.replicate (k - j) (0 : UInt8) ++ beBytes j n).length := by simp [beBytes_length]; omega
      subst hxp
      have hcell := row_cell hrow.out p hpl
      have hfree := row_free hrow.out p
      have hd : ((m : Int) % 256) = ((UInt8.ofNat (n / 256 ^ j % 256)).toNat : Int) := by
        rw [hmn.out, UInt8.toNat_ofNat', Nat.mod_eq_of_lt (show n / 256 ^ j % 256 < 2 ^ 8 from Nat.mod_lt _ (by decide))]; simp
      have hset := row_set hrow.out p _ _ hd hpl
      rw [hp, nil_byte k j n hjk, ← hp] at hset
      have hm2 : m / 256 = n / 256 ^ (j + 1) := by rw [hmn.out, Nat.div_div_eq_div_mul, Nat.pow_succ]
      have HSET := Lib.hid hset; have HM2 := Lib.hid hm2; have HX : Hid ((p : Int) - 1 = (k : Int) - 1 - (j + 1 : Nat)) := Lib.hid (by omega)
      clear hp hset hm2 hd hx
      unfold byteV at hcell
      go_wp2
      refine ⟨⟨j + 1, m / 256, _, by omega, by simp, rfl, by omega, HX, HM2, hbr.setCell (p := ⟨w.heap.size, p, none⟩) (Nat.le_refl _) _, HSET⟩, ?_⟩
      simp [intOf]
    · obtain rfl : j = k := by omega
      have hx1 : x = -1 := by rw [hx.out]; omega
      subst hx1
      have hr2 := hrow.out
      rw [Nat.sub_self, List.replicate_zero, List.nil_append] at hr2
      have hcv := convert_row hr2
      rw [beBytes_length] at hcv
      clear hr2 hx
      go_wp2
      go_ret
      exact ⟨rfl, hbr⟩
end Go.Proofs.YtnhlachoimlhhaaGreatDoor
