/-
  The document's Pace: its calls.
-/
import Derived.Test.YtfmnpepgmedfpaaGreatDoorPcW
namespace Go.Proofs.YtfmnpepgmedfpaaGreatDoor
open Go.ChangeShapes Go.WideShapes Go.ChangeAt Go.RowKit
set_option linter.unusedVariables false
set_option linter.unusedSimpArgs false

def rpCells (s : PcS) (S : Nat) : Array Value := #[.int .u64 S, .int .u64 s.rate, .int .u64 s.tick, .int .u64 s.hv, .int .i64 s.last]
/-- The document's bucket at block D. -/
structure RpAt (s : PcS) (S D : Nat) (w : World) : Prop where
  blk : BlkIs (rpCells s S) 29 D w
  least : s.least = 64000000 * S
theorem RpAt.cells {s : PcS} {S D : Nat} {w : World} (h : RpAt s S D w) : w.cell? ⟨D, 0, none⟩ = some (.int .u64 S) ∧ w.cell? ⟨D, 1, none⟩ = some (.int .u64 s.rate) ∧ w.cell? ⟨D, 2, none⟩ = some (.int .u64 s.tick) ∧ w.cell? ⟨D, 3, none⟩ = some (.int .u64 s.hv) ∧ w.cell? ⟨D, 4, none⟩ = some (.int .i64 s.last) :=
  ⟨h.blk.cell 0, h.blk.cell 1, h.blk.cell 2, h.blk.cell 3, h.blk.cell 4⟩
theorem RpAt.set {s t : PcS} {S D : Nat} {w : World} (h : RpAt s S D w) (i : Nat) (v : Value) (e : (rpCells s S).setIfInBounds i v = rpCells t S) (e2 : t.least = s.least) : RpAt t S D (w.setCell ⟨D, i, none⟩ v) := by
  have h9 := h.blk.set i v
  rw [e] at h9
  exact ⟨h9, e2.trans h.least⟩
theorem RpAt.drewN {s : PcS} {S D : Nat} {w : World} (h : RpAt s S D w) (n : Nat) : RpAt s S D (w.drewN n) := ⟨h.blk.drewN n, h.least⟩
theorem RpAt.kept {s : PcS} {S D : Nat} {T : List Nat} {w w' : World} (h : RpAt s S D w) (k : Kept T w w') (hn : D ∉ T) : RpAt s S D w' := ⟨h.blk.kept k hn, h.least⟩
theorem RpAt.below {s : PcS} {S D : Nat} {w w' : World} (h : RpAt s S D w) (k : Below w.heap.size w w') : RpAt s S D w' := ⟨h.blk.below k, h.least⟩
set_option maxHeartbeats 2000000 in
set_option maxRecDepth 100000 in
theorem rpCap_any (s : PcS) (h1 : s.rate < 18446744073709551616) (h2 : s.tick < 18446744073709551616) (S D : Nat) (hS : S ≤ 1400) (w : World) (h : RpAt s S D w) :
    Calls Tryz.prog 25 #[.pointer (some ⟨D, 0, none⟩)] w fun e w' => e = .returned (.int .u64 s.cap) ∧ ∃ n, w' = w.drewN n := by
  obtain ⟨c0, c1, c2, _, _⟩ := h.cells
  have HM := Lib.hid (fun W => refMul_any s.rate s.tick h1 h2 W)
  obtain ⟨q, hq⟩ : ∃ q, s.cap = q := ⟨_, rfl⟩
  have hq2 : max (64000000 * S) (M.mulT s.rate s.tick) = q := by rw [← hq]; unfold PcS.cap; rw [h.least]
  obtain ⟨L, hL⟩ : ∃ L, 64000000 * S = L := ⟨_, rfl⟩
  rw [hL] at hq2
  obtain ⟨m1, m2, m3, _, _, _⟩ := mxs L (M.mulT s.rate s.tick) q hq2
  have i1 : IntKind.u64.wrap (64000000 * (S : Int)) = (L : Int) := by rw [IntKind.wrap_u64]; omega
  have i2 : (64000000 : Int) * (S : Int) = (L : Int) := by omega
  rw [hq]
  generalize M.mulT s.rate s.tick = V at *
  generalize s.rate = R at *
  generalize s.tick = T at *
  clear h hq hq2 hL
  go_enter Tryz.func25, Tryz.ntmps25
  go_wp2
  go_quiet ((go_at_call 26; exact Calls.quiet_of_same ((HM.out _).mono fun e w' ⟨q1, q2⟩ => ⟨q1, q2.symm⟩)))
  go_wp2
  go_ret
  exact ⟨rfl, _, rfl⟩
set_option maxHeartbeats 4000000 in
set_option maxRecDepth 100000 in
theorem rpTo_any (s : PcS) (hs : s.Ok) (S : Nat) (hS : S ≤ 1400) (now : Int) (hn0 : 0 ≤ now) (hn1 : now ≤ 4611686018427387904) (D : Nat) (w : World) (h : RpAt s S D w) :
    Calls Tryz.prog 58 #[.pointer (some ⟨D, 0, none⟩), .int .i64 now] w fun e w' => e = .returned (.tuple #[]) ∧ RpAt (s.fill now) S D w' ∧ Kept [D] w w' := by
  have hl1 := hs.last.1
  have hl2 := hs.last.2
  obtain ⟨c0, c1, c2, c3, c4⟩ := h.cells
  have f3 := h.blk.free 3
  have f4 := h.blk.free 4
  by_cases hlt : s.last < now
  · have d0 : decide (s.last < now) = true := decide_eq_true hlt
    have e1 : s.at_ now = now := by unfold PcS.at_; omega
    obtain ⟨Dt, hD⟩ : ∃ Dt : Nat, now - s.last = (Dt : Int) := ⟨(now - s.last).toNat, by omega⟩
    have hDb : Dt ≤ 4611686018427387904 := by omega
    have wq1 : IntKind.i64.wrap (Dt : Int) = (Dt : Int) := by rw [IntKind.wrap_i64]; omega
    have wq2 : IntKind.u64.wrap (Dt : Int) = (Dt : Int) := by rw [IntKind.wrap_u64]; omega
    obtain ⟨V, hV⟩ : ∃ V, M.mulT s.rate Dt = V := ⟨_, rfl⟩
    have hVl : V < 18446744073709551616 := by rw [← hV]; exact M.mulT_lt _ _
    obtain ⟨A, hA⟩ : ∃ A, M.addT s.hv V = A := ⟨_, rfl⟩
    have HM : Hid (∀ W, Calls Tryz.prog 26 #[.int .u64 s.rate, .int .u64 Dt] W fun e w' => e = .returned (.int .u64 V) ∧ W = w') := Lib.hid (fun W => by rw [← hV]; exact refMul_any s.rate Dt hs.rate (by omega) W)
    have HA : Hid (∀ W, Calls Tryz.prog 63 #[.int .u64 s.hv, .int .u64 V] W fun e w' => e = .returned (.int .u64 A) ∧ W = w') := Lib.hid (fun W => by rw [← hA]; exact fixAdd_any s.hv V hs.hv hVl W)
    have HC : Hid (∀ W, RpAt { s with hv := A, last := now } S D W → Calls Tryz.prog 25 #[.pointer (some ⟨D, 0, none⟩)] W fun e w' => e = .returned (.int .u64 s.cap) ∧ ∃ n, w' = W.drewN n) := Lib.hid (fun W hW => rpCap_any { s with hv := A, last := now } hs.rate (by have := hs.tick; show s.tick < _; omega) S D hS W hW)
    obtain ⟨q, hq⟩ : ∃ q, min A s.cap = q := ⟨_, rfl⟩
    obtain ⟨m1, m2, m3, _, _, _⟩ := mns A s.cap q hq
    have HR : Hid (s.fill now = { s with hv := q, last := now }) := Lib.hid (by
      unfold PcS.fill
      rw [e1]
      unfold PcS.to
      rw [hD, Int.toNat_natCast, hV, hA, hq])
    have HH := Lib.hid h
    generalize s.cap = K at *
    clear h e1 hV hA hq
    go_enter Tryz.func58, Tryz.ntmps58
    go_upto_region 1 with fail
    go_cut [27] (fun s27 wx => s27 = .int .u64 A ∧ RpAt { s with hv := A } S D wx ∧ Kept [D] w wx)
    case first =>
      go_region_with (first
        | (go_at_call 26; (with_reducible refine (HM.out _).mono ?_); rintro e w1 ⟨rfl, rfl⟩)
        | (go_at_call 63; (with_reducible refine (HA.out _).mono ?_); rintro e w2 ⟨rfl, rfl⟩))
      all_goals
        go_wp2_with fail
        go_meet
        exact ⟨rfl, (RpAt.set (t := { s with hv := A }) HH.out 3 _ rfl rfl).drewN 1, ((Kept.refl [D] w).setCell (.inl (by simp)) _).drew⟩
    case rest =>
      obtain ⟨rfl, h5, k5⟩ := hcut
      have g4 : wc.cell? ⟨D, 4, none⟩ = some (Value.int .i64 s.last) := h5.cells.2.2.2.2
      have gf := h5.blk.free 4
      have H5 := Lib.hid h5
      have K5 := Lib.hid k5
      clear h5 k5 c0 c1 c2 c3 c4 f3 f4 HH HM HA
      go_upto_region 3 with fail
      obtain ⟨W2, hW2⟩ : ∃ W2, wc.setCell ⟨D, 4, none⟩ (.int .i64 now) = W2 := ⟨_, rfl⟩
      have h2 : RpAt { s with hv := A, last := now } S D W2 := by rw [← hW2]; exact RpAt.set (t := { s with hv := A, last := now }) H5.out 4 _ rfl rfl
      have k2 : Kept [D] w W2 := by rw [← hW2]; exact K5.out.setCell (.inl (by simp)) _
      rw [hW2]
      have c3 : W2.cell? ⟨D, 3, none⟩ = some (.int .u64 A) := h2.cells.2.2.2.1
      have f3 := h2.blk.free 3
      have HC2 := Lib.hid (fun n => HC.out (W2.drewN n) (h2.drewN n))
      have H2 := Lib.hid h2
      have HK2 := Lib.hid k2
      clear hW2 h2 k2 H5 K5 HC g4 gf
      go_region_with (go_at_call 25; (first | (with_reducible refine (HC2.out _).mono ?_) | (refine (HC2.out 1).mono ?_)); rintro e w2 ⟨rfl, n2, rfl⟩)
      all_goals
        go_wp2
        go_end0
        rw [HR.out]
        exact ⟨rfl, RpAt.set (t := { s with hv := q, last := now }) (H2.out.drewN _) 3 _ rfl rfl, (HK2.out.drewN _).setCell (.inl (by simp)) _⟩
  · have d0 : decide (s.last < now) = false := decide_eq_false hlt
    have e1 : s.at_ now = s.last := by unfold PcS.at_; omega
    have HC : Hid (∀ n, Calls Tryz.prog 25 #[.pointer (some ⟨D, 0, none⟩)] (w.drewN n) fun e w' => e = .returned (.int .u64 s.cap) ∧ ∃ m, w' = (w.drewN n).drewN m) := Lib.hid (fun n => rpCap_any s hs.rate (by have := hs.tick; omega) S D hS (w.drewN n) (h.drewN n))
    obtain ⟨q, hq⟩ : ∃ q, min s.hv s.cap = q := ⟨_, rfl⟩
    obtain ⟨m1, m2, m3, _, _, _⟩ := mns s.hv s.cap q hq
    have HR : Hid (s.fill now = { s with hv := q }) := Lib.hid (by
      unfold PcS.fill
      rw [e1]
      unfold PcS.to
      rw [Int.sub_self, show (0 : Int).toNat = 0 from rfl, M.mulT_zero, M.addT_zero _ hs.hv, hq])
    have HH := Lib.hid h
    generalize s.cap = K at *
    clear h e1 hq
    go_enter Tryz.func58, Tryz.ntmps58
    go_upto_region 3 with fail
    go_region_with (go_at_call 25; (first | (with_reducible refine (HC.out _).mono ?_) | (refine (HC.out 1).mono ?_)); rintro e w2 ⟨rfl, n2, rfl⟩)
    all_goals
      go_wp2
      go_end0
      rw [HR.out]
      exact ⟨rfl, RpAt.set (t := { s with hv := q }) (HH.out.drewN _) 3 _ rfl rfl, ((Kept.refl [D] w).drewN _).setCell (.inl (by simp)) _⟩
end Go.Proofs.YtfmnpepgmedfpaaGreatDoor
