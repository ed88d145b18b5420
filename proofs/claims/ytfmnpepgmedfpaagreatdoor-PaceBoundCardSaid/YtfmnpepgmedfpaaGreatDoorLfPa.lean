/-
  The document's Pace: its calls.
  The document's Pace: Rate, Take, When.
  The document's Pace: When.
  Rows of numbers, and of pairs of numbers, that came in as arguments, opened.
  The law PaceAll, walked (its opening handed in).
-/
import Derived.Test.YtfmnpepgmedfpaaGreatDoorPcW
import Derived.Test.YtfmnpepgmedfpaaGreatDoorIvW
import Derived.Test.YtfmnpepgmedfpaaGreatDoorVecW
import Derived.OpenShut
import Derived.ChangeSlices
import Derived.ChangeSame
import Derived.Deep.Slices
import Derived.Deep.SlicePairs
namespace Go.Proofs.YtfmnpepgmedfpaaGreatDoor
open Go.ChangeShapes Go.WideShapes Go.ChangeAt Go.RowKit
set_option linter.unusedVariables false
set_option linter.unusedSimpArgs false

def rpCells (s : PcS) (S : Nat) : Array Value := #[.int .u64 S, .int .u64 s.rate, .int .u64 s.tick, .int .u64 s.hv, .int .i64 s.last]
/-- The document's bucket at block D. -/
structure RpAt (s : PcS) (S D : Nat) (w : World) : Prop where
  blk : BlkIs (rpCells s S) 29 D w
  least : s.least = 64000000 * S
theorem RpAt.cells {s : PcS} {S D : Nat} {w : World} (h : RpAt s S D w) : w.cell? ⟨D, 0, none⟩ = some (.int .u64 S) ∧ w.cell? ⟨D, 1, none⟩ = some (.int .u64 s.rate) ∧ w.cell? ⟨D, 2, none⟩ = some (.int .u64 s.tick) ∧ w.cell? ⟨D, 3, none⟩ = some (.int .u64 s.hv) ∧ w.cell? ⟨D, 4, none⟩ = some (.int .i64 s.last) :=
  ⟨h.blk.cell 0, h.blk.cell 1, h.blk.cell 2, h.blk.cell 3, h.blk.cell 4⟩
theorem RpAt.set {s t : PcS} {S D : Nat} {w : World} (h : RpAt s S D w) (i : Nat) (v : Value) (e : (rpCells s S).setIfInBounds i v = rpCells t S) (e2 : t.least = s.least) : RpAt t S D (w.setCell ⟨D, i, none⟩ v) := by
  have h9 := h.blk.set i v
  rw [e] at h9
  exact ⟨h9, e2.trans h.least⟩
theorem RpAt.drewN {s : PcS} {S D : Nat} {w : World} (h : RpAt s S D w) (n : Nat) : RpAt s S D (w.drewN n) := ⟨h.blk.drewN n, h.least⟩
theorem RpAt.kept {s : PcS} {S D : Nat} {T : List Nat} {w w' : World} (h : RpAt s S D w) (k : Kept T w w') (hn : D ∉ T) : RpAt s S D w' := ⟨h.blk.kept k hn, h.least⟩
theorem RpAt.below {s : PcS} {S D : Nat} {w w' : World} (h : RpAt s S D w) (k : Below w.heap.size w w') : RpAt s S D w' := ⟨h.blk.below k, h.least⟩
set_option maxHeartbeats 2000000 in
set_option maxRecDepth 100000 in
theorem rpCap_any (s : PcS) (h1 : s.rate < 18446744073709551616) (h2 : s.tick < 18446744073709551616) (S D : Nat) (hS : S ≤ 1400) (w : World) (h : RpAt s S D w) :
    Calls Tryz.prog 25 #[.pointer (some ⟨D, 0, none⟩)] w fun e w' => e = .returned (.int .u64 s.cap) ∧ ∃ n, w' = w.drewN n := by
  obtain ⟨c0, c1, c2, _, _⟩ := h.cells
  have HM := Lib.hid (fun W => refMul_any s.rate s.tick h1 h2 W)
  obtain ⟨q, hq⟩ : ∃ q, s.cap = q := ⟨_, rfl⟩
  have hq2 : max (64000000 * S) (M.mulT s.rate s.tick) = q := by rw [← hq]; unfold PcS.cap; rw [h.least]
  obtain ⟨L, hL⟩ : ∃ L, 64000000 * S = L := ⟨_, rfl⟩
  rw [hL] at hq2
  obtain ⟨m1, m2, m3, _, _, _⟩ := mxs L (M.mulT s.rate s.tick) q hq2
  have i1 : IntKind.u64.wrap (64000000 * (S : Int)) = (L : Int) := by rw [IntKind.wrap_u64]; omega
  have i2 : (64000000 : Int) * (S : Int) = (L : Int) := by omega
  rw [hq]
  generalize M.mulT s.rate s.tick = V at *
  generalize s.rate = R at *
  generalize s.tick = T at *
  clear h hq hq2 hL
  go_enter Tryz.func25, Tryz.ntmps25
  go_wp2
  go_quiet ((go_at_call 26; exact Calls.quiet_of_same ((HM.out _).mono fun e w' ⟨q1, q2⟩ => ⟨q1, q2.symm⟩)))
  go_wp2
  go_ret
  exact ⟨rfl, _, rfl⟩
set_option maxHeartbeats 4000000 in
set_option maxRecDepth 100000 in
theorem rpTo_any (s : PcS) (hs : s.Ok) (S : Nat) (hS : S ≤ 1400) (now : Int) (hn0 : 0 ≤ now) (hn1 : now ≤ 4611686018427387904) (D : Nat) (w : World) (h : RpAt s S D w) :
    Calls Tryz.prog 58 #[.pointer (some ⟨D, 0, none⟩), .int .i64 now] w fun e w' => e = .returned (.tuple #[]) ∧ RpAt (s.fill now) S D w' ∧ Kept [D] w w' := by
  have hl1 := hs.last.1
  have hl2 := hs.last.2
  obtain ⟨c0, c1, c2, c3, c4⟩ := h.cells
  have f3 := h.blk.free 3
  have f4 := h.blk.free 4
  by_cases hlt : s.last < now
  · have d0 : decide (s.last < now) = true := decide_eq_true hlt
    have e1 : s.at_ now = now := by unfold PcS.at_; omega
    obtain ⟨Dt, hD⟩ : ∃ Dt : Nat, now - s.last = (Dt : Int) := ⟨(now - s.last).toNat, by omega⟩
    have hDb : Dt ≤ 4611686018427387904 := by omega
    have wq1 : IntKind.i64.wrap (Dt : Int) = (Dt : Int) := by rw [IntKind.wrap_i64]; omega
    have wq2 : IntKind.u64.wrap (Dt : Int) = (Dt : Int) := by rw [IntKind.wrap_u64]; omega
    obtain ⟨V, hV⟩ : ∃ V, M.mulT s.rate Dt = V := ⟨_, rfl⟩
    have hVl : V < 18446744073709551616 := by rw [← hV]; exact M.mulT_lt _ _
    obtain ⟨A, hA⟩ : ∃ A, M.addT s.hv V = A := ⟨_, rfl⟩
    have HM : Hid (∀ W, Calls Tryz.prog 26 #[.int .u64 s.rate, .int .u64 Dt] W fun e w' => e = .returned (.int .u64 V) ∧ W = w') := Lib.hid (fun W => by rw [← hV]; exact refMul_any s.rate Dt hs.rate (by omega) W)
    have HA : Hid (∀ W, Calls Tryz.prog 63 #[.int .u64 s.hv, .int .u64 V] W fun e w' => e = .returned (.int .u64 A) ∧ W = w') := Lib.hid (fun W => by rw [← hA]; exact fixAdd_any s.hv V hs.hv hVl W)
    have HC : Hid (∀ W, RpAt { s with hv := A, last := now } S D W → Calls Tryz.prog 25 #[.pointer (some ⟨D, 0, none⟩)] W fun e w' => e = .returned (.int .u64 s.cap) ∧ ∃ n, w' = W.drewN n) := Lib.hid (fun W hW => rpCap_any { s with hv := A, last := now } hs.rate (by have := hs.tick; show s.tick < _; omega) S D hS W hW)
    obtain ⟨q, hq⟩ : ∃ q, min A s.cap = q := ⟨_, rfl⟩
    obtain ⟨m1, m2, m3, _, _, _⟩ := mns A s.cap q hq
    have HR : Hid (s.fill now = { s with hv := q, last := now }) := Lib.hid (by
      unfold PcS.fill
      rw [e1]
      unfold PcS.to
      rw [hD, Int.toNat_natCast, hV, hA, hq])
    have HH := Lib.hid h
    generalize s.cap = K at *
    clear h e1 hV hA hq
    go_enter Tryz.func58, Tryz.ntmps58
    go_upto_region 1 with fail
    go_cut [27] (fun s27 wx => s27 = .int .u64 A ∧ RpAt { s with hv := A } S D wx ∧ Kept [D] w wx)
    case first =>
      go_region_with (first
        | (go_at_call 26; (with_reducible refine (HM.out _).mono ?_); rintro e w1 ⟨rfl, rfl⟩)
        | (go_at_call 63; (with_reducible refine (HA.out _).mono ?_); rintro e w2 ⟨rfl, rfl⟩))
      all_goals
        go_wp2_with fail
        go_meet
        exact ⟨rfl, (RpAt.set (t := { s with hv := A }) HH.out 3 _ rfl rfl).drewN 1, ((Kept.refl [D] w).setCell (.inl (by simp)) _).drew⟩
    case rest =>
      obtain ⟨rfl, h5, k5⟩ := hcut
      have g4 : wc.cell? ⟨D, 4, none⟩ = some (Value.int .i64 s.last) := h5.cells.2.2.2.2
      have gf := h5.blk.free 4
      have H5 := Lib.hid h5
      have K5 := Lib.hid k5
      clear h5 k5 c0 c1 c2 c3 c4 f3 f4 HH HM HA
      go_upto_region 3 with fail
      obtain ⟨W2, hW2⟩ : ∃ W2, wc.setCell ⟨D, 4, none⟩ (.int .i64 now) = W2 := ⟨_, rfl⟩
      have h2 : RpAt { s with hv := A, last := now } S D W2 := by rw [← hW2]; exact RpAt.set (t := { s with hv := A, last := now }) H5.out 4 _ rfl rfl
      have k2 : Kept [D] w W2 := by rw [← hW2]; exact K5.out.setCell (.inl (by simp)) _
      rw [hW2]
      have c3 : W2.cell? ⟨D, 3, none⟩ = some (.int .u64 A) := h2.cells.2.2.2.1
      have f3 := h2.blk.free 3
      have HC2 := Lib.hid (fun n => HC.out (W2.drewN n) (h2.drewN n))
      have H2 := Lib.hid h2
      have HK2 := Lib.hid k2
      clear hW2 h2 k2 H5 K5 HC g4 gf
      go_region_with (go_at_call 25; (first | (with_reducible refine (HC2.out _).mono ?_) | (refine (HC2.out 1).mono ?_)); rintro e w2 ⟨rfl, n2, rfl⟩)
      all_goals
        go_wp2
        go_end0
        rw [HR.out]
        exact ⟨rfl, RpAt.set (t := { s with hv := q, last := now }) (H2.out.drewN _) 3 _ rfl rfl, (HK2.out.drewN _).setCell (.inl (by simp)) _⟩
  · have d0 : decide (s.last < now) = false := decide_eq_false hlt
    have e1 : s.at_ now = s.last := by unfold PcS.at_; omega
    have HC : Hid (∀ n, Calls Tryz.prog 25 #[.pointer (some ⟨D, 0, none⟩)] (w.drewN n) fun e w' => e = .returned (.int .u64 s.cap) ∧ ∃ m, w' = (w.drewN n).drewN m) := Lib.hid (fun n => rpCap_any s hs.rate (by have := hs.tick; omega) S D hS (w.drewN n) (h.drewN n))
    obtain ⟨q, hq⟩ : ∃ q, min s.hv s.cap = q := ⟨_, rfl⟩
    obtain ⟨m1, m2, m3, _, _, _⟩ := mns s.hv s.cap q hq
    have HR : Hid (s.fill now = { s with hv := q }) := Lib.hid (by
      unfold PcS.fill
      rw [e1]
      unfold PcS.to
      rw [Int.sub_self, show (0 : Int).toNat = 0 from rfl, M.mulT_zero, M.addT_zero _ hs.hv, hq])
    have HH := Lib.hid h
    generalize s.cap = K at *
    clear h e1 hq
    go_enter Tryz.func58, Tryz.ntmps58
    go_upto_region 3 with fail
    go_region_with (go_at_call 25; (first | (with_reducible refine (HC.out _).mono ?_) | (refine (HC.out 1).mono ?_)); rintro e w2 ⟨rfl, n2, rfl⟩)
    all_goals
      go_wp2
      go_end0
      rw [HR.out]
      exact ⟨rfl, RpAt.set (t := { s with hv := q }) (HH.out.drewN _) 3 _ rfl rfl, ((Kept.refl [D] w).drewN _).setCell (.inl (by simp)) _⟩
end Go.Proofs.YtfmnpepgmedfpaaGreatDoor

namespace Go.Proofs.YtfmnpepgmedfpaaGreatDoor
open Go.ChangeShapes Go.WideShapes Go.ChangeAt Go.RowKit
set_option linter.unusedVariables false
set_option linter.unusedSimpArgs false

set_option maxHeartbeats 4000000 in
set_option maxRecDepth 100000 in
theorem rpRate_any (s : PcS) (hs : s.Ok) (S : Nat) (hS : S ≤ 1400) (now : Int) (hn0 : 0 ≤ now) (hn1 : now ≤ 4611686018427387904) (x : Nat) (hx : x < 18446744073709551616) (D : Nat) (w : World) (h : RpAt s S D w) :
    Calls Tryz.prog 18 #[.pointer (some ⟨D, 0, none⟩), .int .i64 now, .int .u64 x] w fun e w' => e = .returned (.tuple #[]) ∧ RpAt ((s.fill now).rated x) S D w' ∧ Kept [D] w w' := by
  have HF := Lib.hid (rpTo_any s hs S hS now hn0 hn1 D w h)
  have hf := hs.fill now
  obtain ⟨q, hq⟩ : ∃ q, min (s.fill now).hv (max (s.fill now).least (M.mulT x (s.fill now).tick)) = q := ⟨_, rfl⟩
  obtain ⟨m1, m2, m3, _, _, _⟩ := mns _ _ q hq
  have HR : Hid ((s.fill now).rated x = { s.fill now with rate := x, hv := q }) := Lib.hid (by unfold PcS.rated; rw [hq])
  have HC : Hid (∀ W, RpAt { s.fill now with rate := x } S D W → Calls Tryz.prog 25 #[.pointer (some ⟨D, 0, none⟩)] W fun e w' => e = .returned (.int .u64 (max (s.fill now).least (M.mulT x (s.fill now).tick) : Nat)) ∧ ∃ n, w' = W.drewN n) := Lib.hid (fun W hW => rpCap_any { s.fill now with rate := x } hx (by have := hf.tick; show (s.fill now).tick < _; omega) S D hS W hW)
  generalize max (s.fill now).least (M.mulT x (s.fill now).tick) = K at *
  generalize s.fill now = t at *
  clear h hq hf
  go_enter Tryz.func18, Tryz.ntmps18
  go_upto_region 1 with (go_at_call 58; (with_reducible refine HF.out.mono ?_); rintro e W1 ⟨rfl, h1, k1⟩; have c2 := h1.cells.2.1; have f2 := h1.blk.free 1)
  go_upto_region 2 with fail
  obtain ⟨W2, hW2⟩ : ∃ W2, W1.setCell ⟨D, 1, none⟩ (.int .u64 x) = W2 := ⟨_, rfl⟩
  have h2 : RpAt { t with rate := x } S D W2 := by rw [← hW2]; exact h1.set 1 _ rfl rfl
  have k2 : Kept [D] w W2 := by rw [← hW2]; exact k1.setCell (.inl (by simp)) _
  rw [hW2]
  have c3 : W2.cell? ⟨D, 3, none⟩ = some (.int .u64 t.hv) := h2.cells.2.2.2.1
  have f3 := h2.blk.free 3
  have HC2 := Lib.hid (fun n => HC.out (W2.drewN n) (h2.drewN n))
  have H2 := Lib.hid h2
  have HK2 := Lib.hid k2
  clear hW2 h2 k2 h1 k1 c2 f2 HC HF
  generalize t.hv = hv at *
  go_region_with (go_at_call 25; (first | (with_reducible refine (HC2.out _).mono ?_) | (refine (HC2.out 1).mono ?_)); rintro e w2 ⟨rfl, n2, rfl⟩)
  all_goals
    go_wp2
    go_end0
    rw [HR.out]
    exact ⟨rfl, RpAt.set (s := { t with rate := x, hv := hv }) (t := { t with rate := x, hv := q }) (H2.out.drewN _) 3 _ rfl rfl, (HK2.out.drewN _).setCell (.inl (by simp)) _⟩
set_option maxHeartbeats 4000000 in
set_option maxRecDepth 100000 in
theorem rpTake_any (s : PcS) (hs : s.Ok) (S : Nat) (hS : S ≤ 1400) (now : Int) (hn0 : 0 ≤ now) (hn1 : now ≤ 4611686018427387904) (n : Int) (tk : Bool) (D : Nat) (w : World) (h : RpAt s S D w) :
    Calls Tryz.prog 20 #[.pointer (some ⟨D, 0, none⟩), .int .i64 now, .int .i64 n, .bool tk] w fun e w' => e = .returned (.bool ((s.fill now).has n)) ∧ RpAt (if tk = true then (s.fill now).took n else s.fill now) S D w' ∧ Kept [D] w w' := by
  have HF := Lib.hid (rpTo_any s hs S hS now hn0 hn1 D w h)
  have hf := (hs.fill now).hv
  generalize s.fill now = t at *
  clear h
  by_cases hn : 0 ≤ n ∧ n ≤ 65535
  · obtain ⟨m, rfl⟩ : ∃ m : Nat, n = (m : Int) := ⟨n.toNat, by omega⟩
    have hm : m ≤ 65535 := by omega
    have d1 : decide ((m : Int) < 0) = false := decide_eq_false (by omega)
    have d2 : decide (65535 < (m : Int)) = false := decide_eq_false (by omega)
    obtain ⟨A, hA⟩ : ∃ A, 64000000 * m = A := ⟨_, rfl⟩
    have i1 : (64000000 : Int) * (m : Int) = (A : Int) := by omega
    have hAb : A ≤ 4194240000000 := by omega
    have i2 : IntKind.u64.wrap (A : Int) = (A : Int) := by rw [IntKind.wrap_u64]; omega
    have hhas := t.has_in m hm
    rw [hA] at hhas
    obtain ⟨hv, hhv⟩ : ∃ hv, t.hv = hv := ⟨_, rfl⟩
    rw [hhv] at hf hhas
    have HV := Lib.hid hhv
    by_cases hle : A ≤ hv
    · rw [decide_eq_true hle] at hhas
      have HT : Hid (t.took m = { t with hv := hv - A }) := Lib.hid (by unfold PcS.took; rw [if_pos hhas, Int.toNat_natCast, hA, hhv])
      obtain ⟨G, hG⟩ : ∃ G, hv - A = G := ⟨_, rfl⟩
      rw [hG] at HT
      have d3 : decide ((hv : Int) < (A : Int)) = false := decide_eq_false (by omega)
      have i3 : IntKind.u64.wrap ((hv : Int) - (A : Int)) = (G : Int) := by rw [IntKind.wrap_u64]; omega
      rw [hhas]
      clear hhv hA hhas hG hn
      cases tk with
      | true =>
        rw [if_pos rfl]
        go_enter Tryz.func20, Tryz.ntmps20
        go_upto_region 2 with (go_at_call 58; (with_reducible refine HF.out.mono ?_); rintro e W1 ⟨rfl, h1, k1⟩; have c3 := h1.cells.2.2.2.1; rw [HV.out] at c3; have f3 := h1.blk.free 3)
        have H1 := Lib.hid h1
        have K1 := Lib.hid k1
        clear h1 k1
        go_wp2
        go_ret
        rw [HT.out]
        exact ⟨rfl, RpAt.set (t := { t with hv := G }) H1.out 3 _ rfl rfl, K1.out.setCell (.inl (by simp)) _⟩
      | false =>
        rw [if_neg (by decide)]
        go_enter Tryz.func20, Tryz.ntmps20
        go_wp2_with (go_at_call 58; (with_reducible refine HF.out.mono ?_); rintro e W1 ⟨rfl, h1, k1⟩; have c3 := h1.cells.2.2.2.1; rw [HV.out] at c3)
        go_ret
        exact ⟨rfl, h1, k1⟩
    · rw [decide_eq_false hle] at hhas
      rw [show (if tk = true then t.took m else t) = t by rw [t.took_no m hhas]; split <;> rfl]
      have d3 : decide ((hv : Int) < (A : Int)) = true := decide_eq_true (by omega)
      rw [hhas]
      clear hhv hA hhas hn
      go_enter Tryz.func20, Tryz.ntmps20
      go_wp2_with (go_at_call 58; (with_reducible refine HF.out.mono ?_); rintro e W1 ⟨rfl, h1, k1⟩; have c3 := h1.cells.2.2.2.1; rw [HV.out] at c3)
      go_ret
      exact ⟨rfl, h1, k1⟩
  · have hhas := t.has_out n hn
    rw [show (if tk = true then t.took n else t) = t by rw [t.took_no n hhas]; split <;> rfl]
    rw [hhas]
    have hex : n < 0 ∨ (¬ n < 0 ∧ 65535 < n) := by omega
    clear hhas hn
    rcases hex with g | ⟨g, g2⟩
    · have d1 : decide (n < 0) = true := decide_eq_true g
      go_enter Tryz.func20, Tryz.ntmps20
      go_wp2_with (go_at_call 58; (with_reducible refine HF.out.mono ?_); rintro e W1 ⟨rfl, h1, k1⟩)
      go_ret
      exact ⟨rfl, h1, k1⟩
    · have d1 : decide (n < 0) = false := decide_eq_false g
      have d2 : decide (65535 < n) = true := decide_eq_true g2
      go_enter Tryz.func20, Tryz.ntmps20
      go_wp2_with (go_at_call 58; (with_reducible refine HF.out.mono ?_); rintro e W1 ⟨rfl, h1, k1⟩)
      go_ret
      exact ⟨rfl, h1, k1⟩
end Go.Proofs.YtfmnpepgmedfpaaGreatDoor

namespace Go.Proofs.YtfmnpepgmedfpaaGreatDoor
open Go.ChangeShapes Go.WideShapes Go.ChangeAt Go.RowKit
set_option linter.unusedVariables false
set_option linter.unusedSimpArgs false

theorem ceil_div (a X : Nat) (ha : 1 ≤ a) (hX : 1 ≤ X) : (a - 1) / X + 1 = if a % X = 0 then a / X else a / X + 1 := by
  have h := Nat.div_add_mod a X
  have h2 := Nat.mod_lt a hX
  by_cases h0 : a % X = 0
  · rw [if_pos h0]
    rw [h0, Nat.add_zero] at h
    have hp : 1 ≤ a / X := by
      rcases Nat.eq_zero_or_pos (a / X) with e | e
      · rw [e, Nat.mul_zero] at h; omega
      · exact e
    have : (a - 1) / X = a / X - 1 := by
      apply Nat.div_eq_of_lt_le
      · rw [Nat.mul_comm, Nat.mul_sub, Nat.mul_one, h]; omega
      · rw [Nat.sub_add_cancel hp, Nat.mul_comm, h]; omega
    omega
  · rw [if_neg h0]
    have : (a - 1) / X = a / X := by
      apply Nat.div_eq_of_lt_le
      · rw [Nat.mul_comm]; omega
      · rw [Nat.mul_comm, Nat.mul_add, Nat.mul_one]; omega
    omega
set_option maxHeartbeats 4000000 in
set_option maxRecDepth 100000 in
theorem rpWhen_any (s : PcS) (hs : s.Ok) (hcap : s.hv ≤ s.cap) (S : Nat) (hS : S ≤ 1400) (n : Int) (D : Nat) (w : World) (h : RpAt s S D w) :
    Calls Tryz.prog 23 #[.pointer (some ⟨D, 0, none⟩), .int .i64 n] w fun e w' => e = .returned (.int .i64 (s.when_ n)) ∧ ∃ k, w' = w.drewN k := by
  obtain ⟨c0, c1, c2, c3, c4⟩ := h.cells
  by_cases hn : 0 ≤ n ∧ n ≤ 65535
  · obtain ⟨m, rfl⟩ : ∃ m : Nat, n = (m : Int) := ⟨n.toNat, by omega⟩
    have hm : m ≤ 65535 := by omega
    have d1 : decide ((m : Int) < 0) = false := decide_eq_false (by omega)
    have d2 : decide (65535 < (m : Int)) = false := decide_eq_false (by omega)
    have HCP := Lib.hid (rpCap_any s hs.rate (by have := hs.tick; omega) S D hS w h)
    have hW : s.when_ (m : Int) = if 64000000 * m ≤ s.hv then s.last else if s.cap < 64000000 * m ∨ s.rate = 0 then 4611686018427387904 else min ((M.addT s.last.toNat ((64000000 * m - s.hv - 1) / s.rate + 1) : Nat) : Int) 4611686018427387904 := by
      unfold PcS.when_
      rw [if_pos hn, Int.toNat_natCast]
    rw [hW]
    obtain ⟨A, hA⟩ : ∃ A, 64000000 * m = A := ⟨_, rfl⟩
    have i1 : (64000000 : Int) * (m : Int) = (A : Int) := by omega
    have hAb : A ≤ 4194240000000 := by omega
    have i2 : IntKind.u64.wrap (A : Int) = (A : Int) := by rw [IntKind.wrap_u64]; omega
    have hhv := hs.hv
    have hr := hs.rate
    have hl1 := hs.last.1
    have hl2 := hs.last.2
    obtain ⟨Lt, hLt⟩ : ∃ Lt : Nat, s.last = (Lt : Int) := ⟨s.last.toNat, by omega⟩
    rw [hLt] at c4 hl1 hl2
    rw [hLt, Int.toNat_natCast, hA]
    have hcl := PcS.cap_lt hs
    generalize s.cap = K at *
    generalize s.hv = hv at *
    generalize s.rate = R at *
    clear h hW hn c0 c2 hs hLt hA
    have HSU := Lib.hid (fun W => refSub_any A hv (by omega) hhv W)
    by_cases h2 : K < A
    · rw [if_neg (by omega), if_pos (.inl h2)]
      have d3 : decide ((K : Int) < (A : Int)) = true := decide_eq_true (by omega)
      go_enter Tryz.func23, Tryz.ntmps23
      go_wp2_with (go_at_call 25; (with_reducible refine HCP.out.mono ?_); rintro e w3 ⟨rfl, n3, rfl⟩)
      go_ret
      exact ⟨rfl, n3, rfl⟩
    · have d3 : decide ((K : Int) < (A : Int)) = false := decide_eq_false (by omega)
      by_cases h1 : A ≤ hv
      · rw [if_pos h1]
        have e0 : A - hv = 0 := by omega
        rw [e0] at HSU
        have y1 : min (Lt : Int) 4611686018427387904 = (Lt : Int) := by omega
        have y2 : (if (4611686018427387904 : Int) < (Lt : Int) then (4611686018427387904 : Int) else (Lt : Int)) = (Lt : Int) := if_neg (by omega)
        go_enter Tryz.func23, Tryz.ntmps23
        go_wp2_with (first
          | (go_at_call 25; (with_reducible refine HCP.out.mono ?_); rintro e w3 ⟨rfl, n3, rfl⟩)
          | (go_at_call 62; (refine (HSU.out _).mono ?_); rintro e w4 ⟨rfl, rfl⟩))
        go_ret
        exact ⟨rfl, n3, rfl⟩
      · rw [if_neg h1]
        obtain ⟨D1, hD1⟩ : ∃ D1, A - hv = D1 := ⟨_, rfl⟩
        have hD1p : 1 ≤ D1 := by omega
        have hD1b : D1 ≤ 4194240000000 := by omega
        have g0 : ((D1 : Int) == 0) = false := by rw [beq_eq_false_iff_ne]; omega
        have g1 : ¬ D1 = 0 := by omega
        rw [hD1] at HSU
        by_cases h3 : R = 0
        · subst h3
          rw [if_pos (.inr rfl)]
          go_enter Tryz.func23, Tryz.ntmps23
          go_wp2_with (first
            | (go_at_call 25; (with_reducible refine HCP.out.mono ?_); rintro e w3 ⟨rfl, n3, rfl⟩)
            | (go_at_call 62; (with_reducible refine (HSU.out _).mono ?_); rintro e w4 ⟨rfl, rfl⟩))
          go_ret
          exact ⟨rfl, n3, rfl⟩
        · rw [if_neg (fun e => e.elim h2 h3), hD1, ceil_div D1 R hD1p (by omega)]
          have r0 : ((R : Int) == 0) = false := by rw [beq_eq_false_iff_ne]; omega
          obtain ⟨Q, hQ⟩ : ∃ Q, D1 / R = Q := ⟨_, rfl⟩
          obtain ⟨M0, hM0⟩ : ∃ M0, D1 % R = M0 := ⟨_, rfl⟩
          have hQl : Q ≤ D1 := by rw [← hQ]; exact Nat.div_le_self _ _
          have q3 : (D1 : Int) / (R : Int) = (Q : Int) := by rw [← hQ]; simp
          have q4 : (D1 : Int).tdiv (R : Int) = (Q : Int) := by rw [Int.tdiv_eq_ediv_of_nonneg (by omega)]; exact q3
          have q5 : (D1 : Int) % (R : Int) = (M0 : Int) := by rw [← hM0]; simp
          have q6 : (D1 : Int).tmod (R : Int) = (M0 : Int) := by rw [Int.tmod_eq_emod_of_nonneg (by omega)]; exact q5
          rw [hQ, hM0]
          have hfin : ∀ Z : Nat, ∃ Y : Nat, min (Z : Int) 4611686018427387904 = (Y : Int) ∧ (if (4611686018427387904 : Int) < (Z : Int) then (4611686018427387904 : Int) else (Z : Int)) = (Y : Int) ∧ (if 4611686018427387904 < Z then (4611686018427387904 : Int) else (Z : Int)) = (Y : Int) ∧ Y ≤ 4611686018427387904 := fun Z => ⟨min Z 4611686018427387904, by omega, by split <;> omega, by split <;> omega, by omega⟩
          by_cases hz : M0 = 0
          · subst hz
            rw [if_pos rfl]
            have hQb : Q ≤ 4194240000000 := by omega
            have q7 : (D1 : Int) % (R : Int) = 0 := q5
            have q8 : (D1 : Int).tmod (R : Int) = 0 := q6
            have q9 : decide ((0 : Int) < 0) = false := by decide
            clear q5 q6
            obtain ⟨Z, hZ⟩ : ∃ Z, M.addT Lt Q = Z := ⟨_, rfl⟩
            have HAD : Hid (∀ W, Calls Tryz.prog 63 #[.int .u64 Lt, .int .u64 Q] W fun e w' => e = .returned (.int .u64 Z) ∧ W = w') := Lib.hid (fun W => by rw [← hZ]; exact fixAdd_any Lt Q (by omega) (by omega) W)
            obtain ⟨Y, y1, y2, y3, y4⟩ := hfin Z
            rw [hZ]
            have HY := Lib.hid y1
            rw [HY.out]
            clear hfin hZ hQ hM0 hQl hD1
            go_enter Tryz.func23, Tryz.ntmps23
            go_wp2_with (first
              | (go_at_call 25; (with_reducible refine HCP.out.mono ?_); rintro e w3 ⟨rfl, n3, rfl⟩)
              | (go_at_call 62; (with_reducible refine (HSU.out _).mono ?_); rintro e w4 ⟨rfl, rfl⟩)
              | (go_at_call 63; (with_reducible refine (HAD.out _).mono ?_); rintro e w5 ⟨rfl, rfl⟩))
            go_ret
            exact ⟨rfl, n3, rfl⟩
          · rw [if_neg hz]
            have d5 : decide ((0 : Int) < (M0 : Int)) = true := decide_eq_true (by omega)
            obtain ⟨Z, hZ⟩ : ∃ Z, M.addT Lt (Q + 1) = Z := ⟨_, rfl⟩
            have HAD : Hid (∀ W, Calls Tryz.prog 63 #[.int .u64 Lt, .int .u64 ((Q : Int) + 1)] W fun e w' => e = .returned (.int .u64 Z) ∧ W = w') := Lib.hid (fun W => by rw [← hZ]; exact fixAdd_any Lt (Q + 1) (by omega) (by omega) W)
            obtain ⟨Y, y1, y2, y3, y4⟩ := hfin Z
            rw [hZ]
            have HY := Lib.hid y1
            rw [HY.out]
            have hQb : Q ≤ 4194240000000 := by omega
            clear hfin hZ hQ hM0 hQl hD1
            go_enter Tryz.func23, Tryz.ntmps23
            go_wp2_with (first
              | (go_at_call 25; (with_reducible refine HCP.out.mono ?_); rintro e w3 ⟨rfl, n3, rfl⟩)
              | (go_at_call 62; (with_reducible refine (HSU.out _).mono ?_); rintro e w4 ⟨rfl, rfl⟩)
              | (go_at_call 63; (with_reducible refine (HAD.out _).mono ?_); rintro e w5 ⟨rfl, rfl⟩))
            go_ret
            exact ⟨rfl, n3, rfl⟩
  · have hW : s.when_ n = 4611686018427387904 := by unfold PcS.when_; rw [if_neg hn]
    rw [hW]
    have hex : n < 0 ∨ (¬ n < 0 ∧ 65535 < n) := by omega
    clear hn hW h c0 c1 c2 c3 c4
    rcases hex with g | ⟨g, g2⟩
    · have d1 : decide (n < 0) = true := decide_eq_true g
      go_enter Tryz.func23, Tryz.ntmps23
      go_wp2
      go_ret
      exact ⟨rfl, 0, rfl⟩
    · have d1 : decide (n < 0) = false := decide_eq_false g
      have d2 : decide (65535 < n) = true := decide_eq_true g2
      go_enter Tryz.func23, Tryz.ntmps23
      go_wp2
      go_ret
      exact ⟨rfl, 0, rfl⟩
end Go.Proofs.YtfmnpepgmedfpaaGreatDoor

namespace Go.Proofs.YtfmnpepgmedfpaaGreatDoor
open Go.ChangeShapes Go.WideShapes Go.Deep Go.RowKit
set_option linter.unusedVariables false

theorem addr_plain {w : World} {a : Addr} {v : Value} (h : w.cell? (a.add 0) = some v) : ∃ b o, a = ⟨b, o, none⟩ ∧ b < w.heap.size := by
  have e : a.add 0 = a := by unfold Addr.add; split <;> simp_all
  rw [e] at h
  have hs : a.spot = none := by
    unfold World.cell? at h
    split at h
    · cases hsp : a.spot with
      | none => rfl
      | some x => rw [hsp] at h; simp at h
    · cases h
  have hb := World.block_lt_of_cell? w a h
  obtain ⟨b, o, sp⟩ := a
  simp only at hs
  subst hs
  exact ⟨b, o, rfl, hb⟩
theorem add_plain (b o k : Nat) : (⟨b, o, none⟩ : Addr).add k = ⟨b, o + k, none⟩ := by unfold Addr.add; split <;> simp_all

theorem open_row {H : Type} {enc : TypeId × Value → H} {W : World} {t e : TypeId} {k : IntKind} {p : Option Addr} {n c : Nat} {d : DataW H} {q : List MemPlace}
    (ht : Tryz.prog.underlying t = some (.slice e)) (he : Tryz.prog.underlying e = some (.int k)) (hc : Tryz.prog.cellsOf e = 1)
    (h : DataW.Trod enc Tryz.prog W 0 (fun _ => true) true t (.slice p n c) d q) :
    n ≤ c ∧ c ≤ 9223372036854775807 ∧ ∃ zs : List Int, n ≤ zs.length ∧ (∀ z ∈ zs, (Lit.int k z).wf = true) ∧ ∀ i, i < n → ∃ b o, p = some ⟨b, o, none⟩ ∧ b < W.heap.size ∧ W.cell? ⟨b, o + i, none⟩ = some (.int k (zs.getD i 0)) := by
  obtain ⟨fuel, hf⟩ := h
  rcases open_ints ht he hc hf with ⟨hcs, hx⟩ | ⟨a, len', cap', zs, hcs, _, hl, hm, hz, hx, hcell, hwz⟩
  · simp [Value.cells] at hcs
    obtain ⟨rfl, rfl, rfl⟩ := hcs
    exact ⟨by omega, by omega, [], by simp, by simp, fun i hi => absurd hi (Nat.not_lt_zero i)⟩
  · simp [Value.cells] at hcs
    obtain ⟨rfl, rfl, rfl⟩ := hcs
    simp only [if_true] at hz
    have hm' : c ≤ 9223372036854775807 := hm
    refine ⟨hl, hm', zs, by omega, hwz, fun i hi => ?_⟩
    obtain ⟨b, o, rfl, hb⟩ := addr_plain (hcell 0 (by omega))
    have h1 := hcell i (by omega)
    rw [add_plain] at h1
    exact ⟨b, o, rfl, hb, h1⟩

theorem getD_take_lt {α : Type} (l : List α) (d : α) (m i : Nat) (h : i < m) : (l.take m).getD i d = l.getD i d := by
  rw [List.getD_eq_getElem?_getD, List.getD_eq_getElem?_getD, List.getElem?_take, if_pos h]
theorem getD_prop {α : Type} {P : α → Prop} {l : List α} {d : α} (h : ∀ z ∈ l, P z) (hd : P d) (i : Nat) : P (l.getD i d) := by
  rw [List.getD_eq_getElem?_getD]
  by_cases hi : i < l.length
  · rw [List.getElem?_eq_getElem hi]; exact h _ (List.getElem_mem _)
  · rw [List.getElem?_eq_none (by omega)]; exact hd

/-- Its first m numbers, signed. -/
theorem open_i64s {H : Type} {enc : TypeId × Value → H} {W : World} {t e : TypeId} {p : Option Addr} {n c : Nat} {d : DataW H} {q : List MemPlace} (m : Nat) (hm : m ≤ 1073741824)
    (ht : Tryz.prog.underlying t = some (.slice e)) (he : Tryz.prog.underlying e = some (.int .i64)) (hc : Tryz.prog.cellsOf e = 1)
    (h : DataW.Trod enc Tryz.prog W 0 (fun _ => true) true t (.slice p n c) d q) :
    n ≤ c ∧ c ≤ 9223372036854775807 ∧ ∃ l : List Int, l.length = min n m ∧ I64At W (.slice p l.length c) l := by
  obtain ⟨h1, h2, zs, h3, h4, h5⟩ := open_row ht he hc h
  have hl : (zs.take (min n m)).length = min n m := by rw [List.length_take]; omega
  refine ⟨h1, h2, zs.take (min n m), hl, ⟨p, c, rfl, by omega, h2, fun i hi => ?_⟩, by omega, fun i => ?_⟩
  · rw [getD_take_lt _ _ _ _ (by omega)]
    exact h5 i (by omega)
  · exact getD_prop (P := fun z => -9223372036854775808 ≤ z ∧ z ≤ 9223372036854775807) (fun z hz => bounds_i64 (h4 z (List.mem_of_mem_take hz))) (by decide) i
/-- All its numbers, signed. -/
theorem open_i64w {H : Type} {enc : TypeId × Value → H} {W : World} {t e : TypeId} {p : Option Addr} {n c : Nat} {d : DataW H} {q : List MemPlace}
    (ht : Tryz.prog.underlying t = some (.slice e)) (he : Tryz.prog.underlying e = some (.int .i64)) (hc : Tryz.prog.cellsOf e = 1)
    (h : DataW.Trod enc Tryz.prog W 0 (fun _ => true) true t (.slice p n c) d q) :
    n ≤ c ∧ c ≤ 9223372036854775807 ∧ ∃ l : List Int, l.length = n ∧ ∀ i, i < l.length → ∃ b o, p = some ⟨b, o, none⟩ ∧ b < W.heap.size ∧ W.cell? ⟨b, o + i, none⟩ = some (.int .i64 (l.getD i 0)) := by
  obtain ⟨h1, h2, zs, h3, h4, h5⟩ := open_row ht he hc h
  have hl : (zs.take n).length = n := by rw [List.length_take]; omega
  refine ⟨h1, h2, zs.take n, hl, fun i hi => ?_⟩
  rw [getD_take_lt _ _ _ _ (by omega)]
  exact h5 i (by omega)
/-- Its first m numbers, without a sign. -/
theorem open_u64s {H : Type} {enc : TypeId × Value → H} {W : World} {t e : TypeId} {p : Option Addr} {n c : Nat} {d : DataW H} {q : List MemPlace} (m : Nat) (hm : m ≤ 1073741824)
    (ht : Tryz.prog.underlying t = some (.slice e)) (he : Tryz.prog.underlying e = some (.int .u64)) (hc : Tryz.prog.cellsOf e = 1)
    (h : DataW.Trod enc Tryz.prog W 0 (fun _ => true) true t (.slice p n c) d q) :
    n ≤ c ∧ c ≤ 9223372036854775807 ∧ ∃ l : List Nat, l.length = min n m ∧ U64At W (.slice p l.length c) l := by
  obtain ⟨h1, h2, zs, h3, h4, h5⟩ := open_row ht he hc h
  have hb : ∀ i, 0 ≤ zs.getD i 0 ∧ zs.getD i 0 ≤ 18446744073709551615 := fun i => getD_prop (P := fun z => 0 ≤ z ∧ z ≤ 18446744073709551615) (fun z hz => bounds_u64 (h4 z hz)) (by decide) i
  have hl : ((zs.take (min n m)).map Int.toNat).length = min n m := by rw [List.length_map, List.length_take]; omega
  have hg : ∀ i, i < min n m → ((((zs.take (min n m)).map Int.toNat).getD i 0 : Nat) : Int) = zs.getD i 0 := fun i hi => by
    have h6 := hb i
    rw [List.getD_eq_getElem?_getD] at h6
    rw [List.getD_eq_getElem?_getD, List.getD_eq_getElem?_getD, List.getElem?_map, List.getElem?_take, if_pos hi]
    have hz : i < zs.length := by omega
    rw [List.getElem?_eq_getElem hz] at h6 ⊢
    simp only [Option.getD_some, Option.map_some] at h6 ⊢
    omega
  refine ⟨h1, h2, (zs.take (min n m)).map Int.toNat, hl, ⟨p, c, rfl, by omega, h2, fun i hi => ?_⟩, by omega, fun i => ?_⟩
  · rw [hg i (by omega)]
    exact h5 i (by omega)
  · by_cases hi : i < min n m
    · have h6 := hb i
      have h7 := hg i hi
      omega
    · rw [List.getD_eq_getElem?_getD, List.getElem?_eq_none (by omega)]
      decide

/-- A row of pairs of numbers, whole. -/
theorem open_pairs {H : Type} {enc : TypeId × Value → H} {W : World} {t e : TypeId} {f0 f1 : Field} {p : Option Addr} {n c : Nat} {d : DataW H} {q : List MemPlace}
    (ht : Tryz.prog.underlying t = some (.slice e)) (he : Tryz.prog.underlying e = some (.struct #[f0, f1])) (ce : Tryz.prog.cellsOf e = 2) (o0 : f0.offset = 0) (o1 : f1.offset = 1) (c0 : Tryz.prog.cellsOf f0.type = 1) (c1 : Tryz.prog.cellsOf f1.type = 1)
    (u0 : Tryz.prog.underlying f0.type = some (.int .i64)) (u1 : Tryz.prog.underlying f1.type = some (.int .i64))
    (h : DataW.Trod enc Tryz.prog W 0 (fun _ => true) true t (.slice p n c) d q) :
    n ≤ c ∧ c ≤ 9223372036854775807 ∧ ∃ l : List Cel, l.length = n ∧ (∀ x ∈ l, -9223372036854775808 ≤ x.2 ∧ x.2 ≤ 9223372036854775807) ∧
      ∀ i, i < l.length → ∃ b o, p = some ⟨b, o, none⟩ ∧ b < W.heap.size ∧ W.cell? ⟨b, o + i * 2, none⟩ = some (.int .i64 (l.getD i (0, 0)).1) ∧ W.cell? ⟨b, o + i * 2 + 1, none⟩ = some (.int .i64 (l.getD i (0, 0)).2) := by
  obtain ⟨fuel, hf⟩ := h
  rcases open_slice_pairs ht he ce o0 o1 c0 c1 hf with ⟨hcs, hx⟩ | ⟨a, len, cap, m, n', V0, V1, D0, D1, P0, P1, hcs, _, hl, hm, hmm, hx, hi⟩
  · simp [Value.cells] at hcs
    obtain ⟨rfl, rfl, rfl⟩ := hcs
    exact ⟨by omega, by omega, [], rfl, by simp, fun i hi => absurd hi (Nat.not_lt_zero i)⟩
  · simp [Value.cells] at hcs
    obtain ⟨rfl, rfl, rfl⟩ := hcs
    have hm' : c ≤ 9223372036854775807 := hm
    simp only [if_true] at hmm
    have key : ∀ i, i < n → ∃ x : Cel, V0 i = .int .i64 x.1 ∧ V1 i = .int .i64 x.2 ∧ (-9223372036854775808 ≤ x.2 ∧ x.2 ≤ 9223372036854775807) := by
      intro i hin
      obtain ⟨_, _, k0, k1⟩ := hi i (by omega)
      obtain ⟨z0, hz0, _, _⟩ := DataW.trod_int u0 k0
      obtain ⟨z1, hz1, _, hw1⟩ := DataW.trod_int u1 k1
      simp at hz0 hz1
      exact ⟨(z0, z1), hz0, hz1, bounds_i64 hw1⟩
    have hlist : ∀ m', m' ≤ n → ∃ l : List Cel, l.length = m' ∧ (∀ x ∈ l, -9223372036854775808 ≤ x.2 ∧ x.2 ≤ 9223372036854775807) ∧ ∀ i, i < m' → V0 i = .int .i64 (l.getD i (0, 0)).1 ∧ V1 i = .int .i64 (l.getD i (0, 0)).2 := by
      intro m'
      induction m' with
      | zero => exact fun _ => ⟨[], rfl, by simp, fun i hi => absurd hi (Nat.not_lt_zero i)⟩
      | succ m' ih =>
        intro hmn
        obtain ⟨l, hl1, hl2, hl3⟩ := ih (by omega)
        obtain ⟨x, hx0, hx1, hx2⟩ := key m' (by omega)
        refine ⟨l ++ [x], by simp [hl1], fun y hy => ?_, fun i hi' => ?_⟩
        · rcases List.mem_append.1 hy with h8 | h8
          · exact hl2 y h8
          · rw [List.mem_singleton.1 h8]; exact hx2
        · by_cases e' : i < m'
          · have h9 := hl3 i e'
            rw [List.getD_eq_getElem?_getD] at h9 ⊢
            rwa [List.getElem?_append_left (by omega)]
          · obtain rfl : i = m' := by omega
            rw [List.getD_eq_getElem?_getD, List.getElem?_append_right (by omega), hl1]
            simpa using ⟨hx0, hx1⟩
    obtain ⟨l, hl1, hl2, hl3⟩ := hlist n (Nat.le_refl _)
    refine ⟨hl, hm', l, hl1, hl2, fun i hi' => ?_⟩
    have h0 := (hi 0 (by omega)).1
    rw [Nat.zero_mul] at h0
    obtain ⟨b, o, rfl, hb⟩ := addr_plain h0
    obtain ⟨h6, h7, _, _⟩ := hi i (by omega)
    obtain ⟨h8, h9⟩ := hl3 i (by omega)
    rw [add_plain] at h6 h7
    rw [h8] at h6
    rw [h9] at h7
    exact ⟨b, o, rfl, hb, h6, h7⟩
end Go.Proofs.YtfmnpepgmedfpaaGreatDoor

namespace Go.Proofs.YtfmnpepgmedfpaaGreatDoor
open Go.ChangeShapes Go.WideShapes Go.ChangeAt Go.RowKit Go.Deep
set_option linter.unusedVariables false
set_option linter.unusedSimpArgs false

/-- The operation i of a row that came in. -/
def PaOp (p : Option Addr) (i : Nat) (W : World) : Prop := ∃ (b o : Nat) (z0 z1 : Int) (nn : Nat) (z3 : Int), p = some ⟨b, o, none⟩ ∧ b < W.heap.size ∧ W.cell? ⟨b, o + i * 4, none⟩ = some (.int .i64 z0) ∧ W.cell? ⟨b, o + i * 4 + 1, none⟩ = some (.int .i64 z1) ∧ W.cell? ⟨b, o + i * 4 + 2, none⟩ = some (.int .u64 nn) ∧ W.cell? ⟨b, o + i * 4 + 3, none⟩ = some (.int .i64 z3) ∧
  (-9223372036854775808 ≤ z1 ∧ z1 ≤ 9223372036854775807) ∧ nn < 18446744073709551616 ∧ (-9223372036854775808 ≤ z3 ∧ z3 ≤ 9223372036854775807)
set_option maxRecDepth 100000 in
theorem open_paops {H : Type} {enc : TypeId × Value → H} {W : World} {p : Option Addr} {n c : Nat} {d : DataW H} {q : List MemPlace}
    (h : DataW.Trod enc Tryz.prog W 0 (fun _ => true) true 22 (.slice p n c) d q) : n ≤ c ∧ c ≤ 9223372036854775807 ∧ ∀ i, i < n → PaOp p i W := by
  obtain ⟨fuel, hf⟩ := h
  rcases open_slice Tryz.underlying22 hf with ⟨hcs, hx⟩ | ⟨a, len, cap, m, n', D, Pl, hcs, hb, hl, hm, hmm, hx, hi⟩
  · simp [Value.cells] at hcs
    obtain ⟨rfl, rfl, rfl⟩ := hcs
    exact ⟨by omega, by omega, fun i hi => absurd hi (Nat.not_lt_zero i)⟩
  · simp [Value.cells] at hcs
    obtain ⟨rfl, rfl, rfl⟩ := hcs
    have hm' : c ≤ 9223372036854775807 := hm
    simp only [if_true] at hmm
    have hC : Tryz.prog.cellsOf 31 = 4 := by kernel_rfl
    rw [hC] at hi
    refine ⟨hl, hm', fun i hin => ?_⟩
    obtain ⟨cs', hc, ht'⟩ := hi i (by omega)
    obtain ⟨_, hcl, hat⟩ := World.cells?_some hc
    obtain ⟨ys, n2, hn2, hy, hlen, hyl, hff⟩ := DataW.trod_struct Tryz.underlying31 ht'
    match cs', hcl with
    | [x0, x1, x2, x3], _ =>
      have e0 : ys[0]? = some (ys[0]'(by rw [hyl]; decide)) := List.getElem?_eq_getElem _
      have e1 : ys[1]? = some (ys[1]'(by rw [hyl]; decide)) := List.getElem?_eq_getElem _
      have e2 : ys[2]? = some (ys[2]'(by rw [hyl]; decide)) := List.getElem?_eq_getElem _
      have e3 : ys[3]? = some (ys[3]'(by rw [hyl]; decide)) := List.getElem?_eq_getElem _
      have h0 := hff 0 _ rfl
      have h1 := hff 1 _ rfl
      have h2 := hff 2 _ rfl
      have h3 := hff 3 _ rfl
      rw [e0] at h0
      rw [e1] at h1
      rw [e2] at h2
      rw [e3] at h3
      have k0 : DataW.trod enc Tryz.prog W 0 (fun _ => true) true n2 3 [x0] = some (ys[0]'(by rw [hyl]; decide)) := h0
      have k1 : DataW.trod enc Tryz.prog W 0 (fun _ => true) true n2 3 [x1] = some (ys[1]'(by rw [hyl]; decide)) := h1
      have k2 : DataW.trod enc Tryz.prog W 0 (fun _ => true) true n2 27 [x2] = some (ys[2]'(by rw [hyl]; decide)) := h2
      have k3 : DataW.trod enc Tryz.prog W 0 (fun _ => true) true n2 2 [x3] = some (ys[3]'(by rw [hyl]; decide)) := h3
      obtain ⟨z0, hz0, _, w0⟩ := DataW.trod_int Tryz.underlying3 k0
      obtain ⟨z1, hz1, _, w1⟩ := DataW.trod_int Tryz.underlying3 k1
      obtain ⟨z2, hz2, _, w2⟩ := DataW.trod_int Tryz.underlying27 k2
      obtain ⟨z3, hz3, _, w3⟩ := DataW.trod_int Tryz.underlying2 k3
      simp at hz0 hz1 hz2 hz3
      subst hz0 hz1 hz2 hz3
      have b1 := bounds_i64 w1
      have b2 := bounds_u64 w2
      have b3 := bounds_i64 w3
      obtain ⟨nn, rfl⟩ := Int.eq_ofNat_of_zero_le b2.1
      have c0 := hat 0 (by decide)
      have c1 := hat 1 (by decide)
      have c2 := hat 2 (by decide)
      have c3 := hat 3 (by decide)
      obtain ⟨cs0, hc0, _⟩ := hi 0 (by omega)
      obtain ⟨_, hcl0, hat0⟩ := World.cells?_some hc0
      have g0 := hat0 0 (by decide)
      rw [List.getElem?_eq_getElem (by omega), Nat.zero_mul] at g0
      have ea : a.add 0 = a := by unfold Addr.add; simp
      rw [ea] at g0
      obtain ⟨b, o, rfl, _⟩ := addr_plain g0
      rw [add_plain, add_plain] at c0 c1 c2 c3
      exact ⟨b, o, z0, z1, nn, z3, rfl, World.block_lt_of_cell? W _ c0, c0, c1, c2, c3, b1, by omega, b3⟩
theorem paceNew_nil (s tick : Int) (hs1 : -9223372036854775808 ≤ s) (hs2 : s ≤ 9223372036854775807) (h : s < 1 ∨ (¬ s < 1 ∧ 1400 < s) ∨ (¬ s < 1 ∧ ¬ 1400 < s ∧ tick < 0) ∨ (¬ s < 1 ∧ ¬ 1400 < s ∧ ¬ tick < 0 ∧ 1000000 < tick)) (w : World) :
    Calls Tryz.prog 16 #[.int .i64 s, .int .i64 tick] w fun e w' => e = .returned (.pointer none) ∧ w = w' := by
  rcases h with h | ⟨h, h2⟩ | ⟨h, h2, h3⟩ | ⟨h, h2, h3, h4⟩
  · have d1 : decide (s < 1) = true := decide_eq_true h
    go_enter Tryz.func16, Tryz.ntmps16
    go_wp2
    go_ret
    exact ⟨rfl, rfl⟩
  · have d1 : decide (s < 1) = false := decide_eq_false h
    have d2 : decide (1400 < s) = true := decide_eq_true h2
    go_enter Tryz.func16, Tryz.ntmps16
    go_wp2
    go_ret
    exact ⟨rfl, rfl⟩
  · have d1 : decide (s < 1) = false := decide_eq_false h
    have d2 : decide (1400 < s) = false := decide_eq_false h2
    have d3 : decide (tick < 0) = true := decide_eq_true h3
    go_enter Tryz.func16, Tryz.ntmps16
    go_wp2
    go_ret
    exact ⟨rfl, rfl⟩
  · have d1 : decide (s < 1) = false := decide_eq_false h
    have d2 : decide (1400 < s) = false := decide_eq_false h2
    have d3 : decide (tick < 0) = false := decide_eq_false h3
    have d4 : decide (1000000 < tick) = true := decide_eq_true h4
    go_enter Tryz.func16, Tryz.ntmps16
    go_wp2
    go_ret
    exact ⟨rfl, rfl⟩
theorem PcS.full_fill (t : PcS) (a : Int) : (t.fill a).hv ≤ (t.fill a).cap := Nat.min_le_right _ _
theorem PcS.full_rated (t : PcS) (x : Nat) : (t.rated x).hv ≤ (t.rated x).cap := Nat.min_le_right _ _
theorem PcS.full_took (t : PcS) (n : Int) (h : t.hv ≤ t.cap) : (t.took n).hv ≤ (t.took n).cap := by
  unfold PcS.took
  split
  · exact Nat.le_trans (Nat.sub_le _ _) h
  · exact h
/-- A bucket of the program's and one of the document's, alike. -/
structure PaPair (t : PcS) (S C D B : Nat) (w W : World) : Prop where
  ok : t.Ok
  full : t.hv ≤ t.cap
  p : PcAt t C W
  r : RpAt t S D W
  ge : B ≤ C ∧ B ≤ D
  ne : C ≠ D
  bel : Below B w W
theorem PaPair.below {t : PcS} {S C D B : Nat} {w W W' : World} (h : PaPair t S C D B w W) (k : Below W.heap.size W W') : PaPair t S C D B w W' :=
  ⟨h.ok, h.full, BlkIs.below h.p k, h.r.below k, h.ge, h.ne, h.bel.trans (k.mono (by have := h.p.lt; have := h.ge; omega))⟩
/-- Behind one call of each. -/
theorem PaPair.both {t t' : PcS} {S C D B : Nat} {w W V U : World} (h : PaPair t S C D B w W) (h1 : t'.Ok) (h2 : t'.hv ≤ t'.cap) (k1 : PcAt t' C V) (k2 : Kept [C] W V) (k3 : RpAt t' S D U) (k4 : Kept [D] V U) : PaPair t' S C D B w U := by
  have hp := h.p.lt
  have hr := h.r.blk.lt
  have s2 := k2.size
  have hge := h.ge
  exact ⟨h1, h2, BlkIs.kept k1 k4 (by simpa using h.ne), k3, h.ge, h.ne, (h.bel.trans (k2.below (by omega) (by intro q hq; simp at hq; omega))).trans (k4.below (by omega) (by intro q hq; simp at hq; omega))⟩
set_option maxHeartbeats 8000000 in
set_option maxRecDepth 100000 in
theorem paceAll_walk (sz : Int) (s1 : -9223372036854775808 ≤ sz) (s2 : sz ≤ 9223372036854775807) (tz : Int) (k1 : -9223372036854775808 ≤ tz) (k2 : tz ≤ 9223372036854775807) (p : Option Addr) (m c : Nat) (hm : m ≤ c) (hc : c ≤ 9223372036854775807) (w : World) (hops : ∀ i, i < m → PaOp p i w)
    (hbg : Calls Tryz.prog 15 #[] w fun e w' => e = .returned (.bool true) ∧ Below w.heap.size w w') :
    Calls Tryz.prog 3 #[.int .i64 sz, .int .i64 tz, .slice p m c] w fun e w' => e = .returned (.bool true) ∧ Below w.heap.size w w' := by
  have HBG := Lib.hid hbg
  have HOP := Lib.hid hops
  clear hbg hops
  by_cases hout : sz < 1 ∨ (¬ sz < 1 ∧ 1400 < sz) ∨ (¬ sz < 1 ∧ ¬ 1400 < sz ∧ tz < 0) ∨ (¬ sz < 1 ∧ ¬ 1400 < sz ∧ ¬ tz < 0 ∧ 1000000 < tz)
  · have HN := Lib.hid (paceNew_nil sz tz s1 s2 hout)
    rcases hout with h | ⟨h, h2⟩ | ⟨h, h2, h3⟩ | ⟨h, h2, h3, h4⟩
    · have d1 : decide (sz < 1) = true := decide_eq_true h
      go_enter Tryz.func3, Tryz.ntmps3
      go_wp2_with (first
        | (go_at_call 15; (with_reducible refine HBG.out.mono ?_); rintro e w0 ⟨rfl, hb0⟩)
        | (go_at_call 16; (with_reducible refine (HN.out _).mono ?_); rintro e w1 ⟨rfl, rfl⟩))
      go_ret
      exact ⟨rfl, hb0⟩
    · have d1 : decide (sz < 1) = false := decide_eq_false h
      have d2 : decide (1400 < sz) = true := decide_eq_true h2
      go_enter Tryz.func3, Tryz.ntmps3
      go_wp2_with (first
        | (go_at_call 15; (with_reducible refine HBG.out.mono ?_); rintro e w0 ⟨rfl, hb0⟩)
        | (go_at_call 16; (with_reducible refine (HN.out _).mono ?_); rintro e w1 ⟨rfl, rfl⟩))
      go_ret
      exact ⟨rfl, hb0⟩
    · have d1 : decide (sz < 1) = false := decide_eq_false h
      have d2 : decide (1400 < sz) = false := decide_eq_false h2
      have d3 : decide (tz < 0) = true := decide_eq_true h3
      go_enter Tryz.func3, Tryz.ntmps3
      go_wp2_with (first
        | (go_at_call 15; (with_reducible refine HBG.out.mono ?_); rintro e w0 ⟨rfl, hb0⟩)
        | (go_at_call 16; (with_reducible refine (HN.out _).mono ?_); rintro e w1 ⟨rfl, rfl⟩))
      go_ret
      exact ⟨rfl, hb0⟩
    · have d1 : decide (sz < 1) = false := decide_eq_false h
      have d2 : decide (1400 < sz) = false := decide_eq_false h2
      have d3 : decide (tz < 0) = false := decide_eq_false h3
      have d4 : decide (1000000 < tz) = true := decide_eq_true h4
      go_enter Tryz.func3, Tryz.ntmps3
      go_wp2_with (first
        | (go_at_call 15; (with_reducible refine HBG.out.mono ?_); rintro e w0 ⟨rfl, hb0⟩)
        | (go_at_call 16; (with_reducible refine (HN.out _).mono ?_); rintro e w1 ⟨rfl, rfl⟩))
      go_ret
      exact ⟨rfl, hb0⟩
  · obtain ⟨S, rfl⟩ : ∃ S : Nat, sz = (S : Int) := ⟨sz.toNat, by omega⟩
    obtain ⟨tk, rfl⟩ : ∃ tk : Nat, tz = (tk : Int) := ⟨tz.toNat, by omega⟩
    have hS1 : 1 ≤ S := by omega
    have hS2 : S ≤ 1400 := by omega
    have htk : tk ≤ 1000000 := by omega
    have d1 : decide ((S : Int) < 1) = false := decide_eq_false (by omega)
    have d2 : decide (1400 < (S : Int)) = false := decide_eq_false (by omega)
    have d3 : decide ((tk : Int) < 0) = false := decide_eq_false (by omega)
    have d4 : decide (1000000 < (tk : Int)) = false := decide_eq_false (by omega)
    have HNEW := Lib.hid (fun W => paceNew_any S tk hS1 hS2 htk W)
    obtain ⟨B, hB⟩ : ∃ B, w.heap.size = B := ⟨_, rfl⟩
    have HBe := Lib.hid hB
    clear hout
    go_enter Tryz.func3, Tryz.ntmps3
    go_upto_region 8 with (first
      | (go_at_call 15; (with_reducible refine HBG.out.mono ?_); rintro e w0 ⟨rfl, hb0⟩)
      | (go_at_call 16; (with_reducible refine (HNEW.out _).mono ?_); rintro e w1 ⟨C, rfl, h1, h2, h3⟩))
    have HP0 : Hid (PaPair ⟨64000000 * S, tk, 0, 0, 0⟩ S C w1.heap.size B w (w1.alloc (.cells (rpCells ⟨64000000 * S, tk, 0, 0, 0⟩ S) 29))) := Lib.hid (by
      have s0 := hb0.size
      have l1 := h1.lt
      have s1 := h3.size
      exact ⟨PcS.Ok.new S tk hS2 htk, Nat.zero_le _, BlkIs.alloc h1 _, ⟨BlkIs.new _ _ _, rfl⟩, ⟨by omega, by omega⟩, by omega, by rw [← hB]; exact bel_trans (bel_trans hb0 h3) (bel_alloc _ _)⟩)
    obtain ⟨W2, hW2⟩ : ∃ W2, w1.alloc (.cells (rpCells ⟨64000000 * S, tk, 0, 0, 0⟩ S) 29) = W2 := ⟨_, rfl⟩
    have hW2' : w1.alloc (.cells #[.int .u64 (S : Nat), .int .u64 0, .int .u64 (tk : Nat), .int .u64 0, .int .i64 0] 29) = W2 := hW2
    rw [hW2] at HP0
    rw [hW2']
    obtain ⟨D, hD⟩ : ∃ D, w1.heap.size = D := ⟨_, rfl⟩
    rw [hD] at HP0 ⊢
    clear hW2 hW2' hD hb0 h1 h2 h3 hB HNEW HBG d1 d2 d3 d4
    go_wp2
    go_loopw [10] (fun i wr => ∃ (k : Nat) (t : PcS), i = .int .i64 (k : Int) ∧ k ≤ m ∧ k ≤ 50 ∧ Hid (PaPair t S C D B w wr)) (fun i _ => 50 - (intOf i).toNat)
    case atStart => exact ⟨0, _, rfl, by omega, by omega, HP0⟩
    case round =>
      clear HP0
      obtain ⟨k, t, rfl, hkm, hk50, hpr⟩ := hrel
      by_cases hgo : k < m ∧ k < 50
      · obtain ⟨g1, g2⟩ := hgo
        have d0 : decide ((k : Int) < (m : Int)) = true := decide_eq_true (by omega)
        have d1 : decide ((k : Int) < 50) = true := decide_eq_true (by omega)
        have d2 : decide ((k : Int) < 0) = false := decide_eq_false (by omega)
        obtain ⟨b, o, z0, z1, nn, z3, rfl, hbl, x0, x1, x2, x3, y1, y2, y3⟩ := HOP.out k g1
        have hbel := hpr.out.bel
        have hlb : b < B := by rw [← HBe.out]; exact hbl
        have c0 := (hbel.cell (p := ⟨b, o + k * 4, none⟩) hlb).trans x0
        have c1 := (hbel.cell (p := ⟨b, o + k * 4 + 1, none⟩) hlb).trans x1
        have c2 := (hbel.cell (p := ⟨b, o + k * 4 + 2, none⟩) hlb).trans x2
        have c3 := (hbel.cell (p := ⟨b, o + k * 4 + 3, none⟩) hlb).trans x3
        obtain ⟨T0, hT0⟩ : ∃ T0, min z3 2305843009213693952 = T0 := ⟨_, rfl⟩
        obtain ⟨a, hT⟩ : ∃ a, max 0 T0 = a := ⟨_, rfl⟩
        obtain ⟨t1, t2, _, t4, _⟩ := mni _ _ T0 hT0
        obtain ⟨t5, t6, t7, _, t8⟩ := mxi _ _ a hT
        have ha1 : 0 ≤ a := by omega
        have ha2 : a ≤ 4611686018427387904 := by omega
        obtain ⟨WR, hWR⟩ : ∃ WR, WR = wr.alloc (.cells #[.int .i64 z0, .int .i64 z1, .int .u64 nn, .int .i64 z3] 31) := ⟨_, rfl⟩
        have hbx : BlkIs #[.int .i64 z0, .int .i64 z1, .int .u64 nn, .int .i64 z3] 31 wr.heap.size WR := by rw [hWR]; exact BlkIs.new _ _ _
        have hpr2 : PaPair t S C D B w WR := hpr.out.below (by rw [hWR]; exact bel_alloc _ _)
        have hCx : C < wr.heap.size := hpr.out.p.lt
        have hDx : D < wr.heap.size := hpr.out.r.blk.lt
        have e0 : WR.cell? ⟨wr.heap.size, 0, none⟩ = some (.int .i64 z0) := hbx.cell 0
        have e1 : WR.cell? ⟨wr.heap.size, 1, none⟩ = some (.int .i64 z1) := hbx.cell 1
        have e2 : WR.cell? ⟨wr.heap.size, 2, none⟩ = some (.int .u64 nn) := hbx.cell 2
        have e3 : WR.cell? ⟨wr.heap.size, 3, none⟩ = some (.int .i64 z3) := hbx.cell 3
        have HPR := Lib.hid hpr2
        have HBX := Lib.hid hbx
        clear x0 x1 x2 x3 hbel hpr2 hbx hpr hT0 hT
        go_upto_region 12 with fail
        rw [← hWR]
        clear hWR c0 c1 c2 c3
        obtain ⟨Bx, hBx⟩ : ∃ Bx, wr.heap.size = Bx := ⟨_, rfl⟩
        rw [hBx] at e0 e1 e2 e3 HBX hCx hDx ⊢
        clear hBx
        have hne1 : Bx ≠ C := by omega
        have hne2 : Bx ≠ D := by omega
        -- what each round ends with
        have HEND : Hid (∀ (t' : PcS) U, PaPair t' S C D B w U → (Calls Tryz.prog 24 #[.pointer (some ⟨C, 0, none⟩)] U fun e w' => e = .returned (.int .u64 t'.cap) ∧ ∃ q, w' = U.drewN q) ∧ (∀ n, Calls Tryz.prog 25 #[.pointer (some ⟨D, 0, none⟩)] (U.drewN n) fun e w' => e = .returned (.int .u64 t'.cap) ∧ ∃ q, w' = U.drewN q) ∧ ∀ n, PaPair t' S C D B w (U.drewN n)) := Lib.hid (fun t' U h => ⟨paceCap_any t' h.ok.rate (by have := h.ok.tick; omega) C U h.p, fun n => (rpCap_any t' h.ok.rate (by have := h.ok.tick; omega) S D hS2 (U.drewN n) (h.r.drewN n)).mono fun e w' ⟨q1, q, q2⟩ => ⟨q1, n + q, by rw [q2]; first | rfl | exact World.drewN_drewN U n q | exact (World.drewN_drewN U n q).symm⟩, fun n => h.below (bel_drewN U n)⟩)
        by_cases hk0 : z0 = 0
        · subst hk0
          have HA := Lib.hid (paceRate_any t HPR.out.ok a nn (by omega) C WR HPR.out.p)
          have HB := Lib.hid (fun W (h : RpAt t S D W) => rpRate_any t HPR.out.ok S hS2 a ha1 ha2 nn (by omega) D W h)
          go_upto_region 25 with (first
            | (go_at_call 17; (with_reducible refine HA.out.mono ?_); rintro e w3 ⟨rfl, l1, l2⟩; have lr := HPR.out.r.kept l2 (by simpa using HPR.out.ne.symm); have b2 := (HBX.out.kept l2 (by simpa using hne1)).cell 2)
            | (go_at_call 18; (with_reducible refine (HB.out _ lr).mono ?_); rintro e w4 ⟨rfl, l3, l4⟩))
          have HQ := Lib.hid (HPR.out.both ((HPR.out.ok.fill a).rated nn (by omega)) (PcS.full_rated _ _) l1 l2 l3 l4)
          have HE1 := Lib.hid (HEND.out _ _ HQ.out).1
          have HE2 := Lib.hid (HEND.out _ _ HQ.out).2.1
          have HE3 := Lib.hid (HEND.out _ _ HQ.out).2.2
          clear l1 l2 l3 l4 lr HEND HPR HA HB HBX e0 e1 e2 e3 b2
          go_wp2_with (first
            | (go_at_call 24; (with_reducible refine HE1.out.mono ?_); rintro e w5 ⟨rfl, q5, rfl⟩)
            | (go_at_call 25; (with_reducible refine (HE2.out _).mono ?_); rintro e w6 ⟨rfl, q6, rfl⟩))
          refine ⟨⟨k + 1, _, by go_num, by omega, by omega, Lib.hid (HE3.out _)⟩, ?_⟩
          simp [intOf]; omega
        · have b0 : ((z0 : Int) == 0) = false := by rw [beq_eq_false_iff_ne]; exact hk0
          by_cases hk1 : z0 = 1
          · subst hk1
            have HPR2 : Hid (PaPair t S C D B w WR.drew) := Lib.hid (HPR.out.below (bel_drewN WR 1))
            have HA := Lib.hid (paceMay_any t HPR.out.ok a z1 C WR.drew HPR2.out.p)
            have HB := Lib.hid (fun W (h : RpAt t S D W) => rpTake_any t HPR.out.ok S hS2 a ha1 ha2 z1 false D W h)
            go_upto_region 20 with fail
            generalize (t.fill a).has z1 = r at *
            go_region_with (first
              | (go_at_call 19; (with_reducible refine HA.out.mono ?_); rintro e w3 ⟨rfl, l1, l2⟩; have lr := HPR2.out.r.kept l2 (by simpa using HPR.out.ne.symm); have bz := (BlkIs.kept (BlkIs.drewN HBX.out 1) l2 (by simpa using hne1)).cell 1)
              | (go_at_call 20; (with_reducible refine (HB.out _ lr).mono ?_); rintro e w4 ⟨rfl, l3, l4⟩))
            all_goals
              have HQ := Lib.hid (HPR2.out.both (HPR.out.ok.fill a) (PcS.full_fill _ _) l1 l2 l3 l4)
              have HE1 := Lib.hid (HEND.out _ _ HQ.out).1
              have HE2 := Lib.hid (HEND.out _ _ HQ.out).2.1
              have HE3 := Lib.hid (HEND.out _ _ HQ.out).2.2
              clear l1 l2 l3 l4 lr HEND HPR HPR2 HA HB HBX e0 e1 e2 e3 bz
              go_wp2_with (first
                | (go_at_call 24; (with_reducible refine HE1.out.mono ?_); rintro e w5 ⟨rfl, q5, rfl⟩)
                | (go_at_call 25; (with_reducible refine (HE2.out _).mono ?_); rintro e w6 ⟨rfl, q6, rfl⟩))
              refine ⟨⟨k + 1, _, by go_num, by omega, by omega, Lib.hid (HE3.out _)⟩, ?_⟩
              simp [intOf]; omega
          · have b1 : ((z0 : Int) == 1) = false := by rw [beq_eq_false_iff_ne]; exact hk1
            by_cases hk2 : z0 = 2
            · subst hk2
              have HPR2 : Hid (PaPair t S C D B w WR.drew) := Lib.hid (HPR.out.below (bel_drewN WR 1))
              have HA := Lib.hid (paceTake_any t HPR.out.ok a z1 C WR.drew HPR2.out.p)
              have HB := Lib.hid (fun W (h : RpAt t S D W) => rpTake_any t HPR.out.ok S hS2 a ha1 ha2 z1 true D W h)
              go_upto_region 23 with fail
              generalize (t.fill a).has z1 = r at *
              go_region_with (first
                | (go_at_call 21; (with_reducible refine HA.out.mono ?_); rintro e w3 ⟨rfl, l1, l2⟩; have lr := HPR2.out.r.kept l2 (by simpa using HPR.out.ne.symm); have bz := (BlkIs.kept (BlkIs.drewN HBX.out 1) l2 (by simpa using hne1)).cell 1)
                | (go_at_call 20; (with_reducible refine (HB.out _ lr).mono ?_); rintro e w4 ⟨rfl, l3, l4⟩))
              all_goals
                have HQ := Lib.hid (HPR2.out.both ((HPR.out.ok.fill a).took z1) (PcS.full_took _ _ (PcS.full_fill _ _)) l1 l2 l3 l4)
                have HE1 := Lib.hid (HEND.out _ _ HQ.out).1
                have HE2 := Lib.hid (HEND.out _ _ HQ.out).2.1
                have HE3 := Lib.hid (HEND.out _ _ HQ.out).2.2
                clear l1 l2 l3 l4 lr HEND HPR HPR2 HA HB HBX e0 e1 e2 e3 bz
                go_wp2_with (first
                  | (go_at_call 24; (with_reducible refine HE1.out.mono ?_); rintro e w5 ⟨rfl, q5, rfl⟩)
                  | (go_at_call 25; (with_reducible refine (HE2.out _).mono ?_); rintro e w6 ⟨rfl, q6, rfl⟩))
                refine ⟨⟨k + 1, _, by go_num, by omega, by omega, Lib.hid (HE3.out _)⟩, ?_⟩
                simp [intOf]; omega
            · have b3 : ((z0 : Int) == 2) = false := by rw [beq_eq_false_iff_ne]; exact hk2
              have HA := Lib.hid (fun n => paceWhen_any t HPR.out.ok z1 C (WR.drewN n) (BlkIs.drewN HPR.out.p n))
              have HB := Lib.hid (fun n => rpWhen_any t HPR.out.ok HPR.out.full S hS2 z1 D (WR.drewN n) (HPR.out.r.drewN n))
              go_upto_region 14 with fail
              generalize t.when_ z1 = r at *
              go_quiet ((first
                | (go_at_call 22; exact Calls.quiet_of (HA.out _))
                | (go_at_call 23; exact Calls.quiet_of (HB.out _))))
              have HQ := Lib.hid (HPR.out.below (bel_drewN WR nq))
              have HE1 := Lib.hid (HEND.out _ _ HQ.out).1
              have HE2 := Lib.hid (HEND.out _ _ HQ.out).2.1
              have HE3 := Lib.hid (HEND.out _ _ HQ.out).2.2
              clear HEND HPR HA HB HBX e0 e1 e2 e3
              generalize WR.drewN nq = WS at *
              go_wp2_with (first
                | (go_at_call 24; (with_reducible refine HE1.out.mono ?_); rintro e w5 ⟨rfl, q5, rfl⟩)
                | (go_at_call 25; (with_reducible refine (HE2.out _).mono ?_); rintro e w6 ⟨rfl, q6, rfl⟩))
              refine ⟨⟨k + 1, _, by go_num, by omega, by omega, Lib.hid (HE3.out _)⟩, ?_⟩
              simp [intOf]; omega
      · have hbl := hpr.out.bel
        have hex : ¬ k < m ∨ (k < m ∧ ¬ k < 50) := by omega
        clear hgo hpr HOP
        rcases hex with g0 | ⟨g0, g1⟩
        · have d0 : decide ((k : Int) < (m : Int)) = false := decide_eq_false (by omega)
          go_wp2
          go_ret
          exact ⟨rfl, by rw [HBe.out]; exact hbl⟩
        · have d0 : decide ((k : Int) < (m : Int)) = true := decide_eq_true (by omega)
          have d1 : decide ((k : Int) < 50) = false := decide_eq_false (by omega)
          go_wp2
          go_ret
          exact ⟨rfl, by rw [HBe.out]; exact hbl⟩
end Go.Proofs.YtfmnpepgmedfpaaGreatDoor
