/-
  Package pace: what lies behind its pointer, as a function of its calls (pure).
  Package pace: sums over a bucket's calls (pure).
  Package pace: its calls.
  Package pace: May, Take, When.
  Package pace: When.
-/
import Derived.Test.YtnhlachoimlhhaaGreatDoorFixM
import Derived.Test.YtnhlachoimlhhaaGreatDoorBlk
import Derived.Test.YtnhlachoimlhhaaGreatDoorMatW
import Derived.Test.YtnhlachoimlhhaaGreatDoorChecked
import Derived.WalkKit
import Derived.ProofKit
import Derived.LoopTactic
import Derived.Outline
import Derived.RegionTactic
import Derived.Deep.RegionWith
import Derived.BigQuiet
import Derived.Deep.QuietTactic
import Derived.Deep.Cut
import Derived.Deep.DeepCutAuto
import Derived.Laws.NewBlocks
namespace Go.Proofs.YtnhlachoimlhhaaGreatDoor
set_option linter.unusedVariables false
set_option linter.unusedSimpArgs false

/-- A bucket's numbers. -/
structure PcS where
  least : Nat
  tick : Nat
  rate : Nat
  hv : Nat
  last : Int
def PcS.cap (s : PcS) : Nat := max s.least (M.mulT s.rate s.tick)
/-- The time that a call counts. -/
def PcS.at_ (s : PcS) (now : Int) : Int := max s.last (min now 4611686018427387904)
def PcS.to (s : PcS) (t : Int) : PcS := { s with hv := min (M.addT s.hv (M.mulT s.rate (t - s.last).toNat)) s.cap, last := t }
def PcS.fill (s : PcS) (now : Int) : PcS := s.to (s.at_ now)
def PcS.rated (s : PcS) (x : Nat) : PcS := { s with rate := x, hv := min s.hv (max s.least (M.mulT x s.tick)) }
/-- Are there n bytes? -/
def PcS.has (s : PcS) (n : Int) : Bool := (decide (0 ≤ n) && decide (n ≤ 65535)) && decide (64000000 * n.toNat ≤ s.hv)
def PcS.took (s : PcS) (n : Int) : PcS := if s.has n = true then { s with hv := s.hv - 64000000 * n.toNat } else s
theorem M.mulT_lt (a b : Nat) : M.mulT a b < 18446744073709551616 := by unfold M.mulT; split <;> omega
theorem M.mulT_zero (a : Nat) : M.mulT a 0 = 0 := by unfold M.mulT; rw [Nat.mul_zero, if_pos (by omega)]
/-- What always holds. -/
structure PcS.Ok (s : PcS) : Prop where
  least : s.least ≤ 89600000000
  tick : s.tick ≤ 1000000
  rate : s.rate < 18446744073709551616
  hv : s.hv < 18446744073709551616
  last : 0 ≤ s.last ∧ s.last ≤ 4611686018427387904
theorem PcS.cap_lt {s : PcS} (h : s.Ok) : s.cap < 18446744073709551616 := by
  have := h.least
  have := M.mulT_lt s.rate s.tick
  unfold PcS.cap
  omega
theorem PcS.at_ok {s : PcS} (h : s.Ok) (now : Int) : s.last ≤ s.at_ now ∧ 0 ≤ s.at_ now ∧ s.at_ now ≤ 4611686018427387904 := by
  have := h.last
  unfold PcS.at_
  omega
theorem PcS.Ok.to {s : PcS} (h : s.Ok) (t : Int) (h1 : 0 ≤ t) (h2 : t ≤ 4611686018427387904) : (s.to t).Ok :=
  ⟨h.least, h.tick, h.rate, by have := PcS.cap_lt h; show min _ _ < _; omega, ⟨h1, h2⟩⟩
theorem PcS.Ok.fill {s : PcS} (h : s.Ok) (now : Int) : (s.fill now).Ok := h.to _ (PcS.at_ok h now).2.1 (PcS.at_ok h now).2.2
theorem PcS.Ok.rated {s : PcS} (h : s.Ok) (x : Nat) (hx : x < 18446744073709551616) : (s.rated x).Ok :=
  ⟨h.least, h.tick, hx, by have := h.hv; show min _ _ < _; omega, h.last⟩
theorem PcS.Ok.took {s : PcS} (h : s.Ok) (n : Int) : (s.took n).Ok := by
  unfold PcS.took
  split
  · exact ⟨h.least, h.tick, h.rate, by have := h.hv; show s.hv - _ < _; omega, h.last⟩
  · exact h
theorem PcS.Ok.new (s tick : Nat) (h1 : s ≤ 1400) (h2 : tick ≤ 1000000) : (PcS.mk (64000000 * s) tick 0 0 0).Ok := ⟨by show 64000000 * s ≤ _; omega, h2, (by decide : 0 < 18446744073709551616), (by decide : 0 < 18446744073709551616), ⟨Int.le_refl 0, (by decide : (0 : Int) ≤ 4611686018427387904)⟩⟩
end Go.Proofs.YtnhlachoimlhhaaGreatDoor

namespace Go.Proofs.YtnhlachoimlhhaaGreatDoor
set_option linter.unusedVariables false
set_option linter.unusedSimpArgs false

theorem M.mulT_at (a b : Nat) (h : a * b < 18446744073709551616) : M.mulT a b = a * b := by unfold M.mulT; rw [if_pos h]
theorem M.addT_at (a b : Nat) (h : a + b < 18446744073709551616) : M.addT a b = a + b := by unfold M.addT; rw [if_pos h]
theorem PcS.took_hv (s : PcS) (n : Int) (h : s.has n = true) : (s.took n).hv + 64000000 * n.toNat = s.hv ∧ 64000000 * n.toNat ≤ s.hv := by
  have h2 := h
  unfold PcS.has at h2
  simp at h2
  unfold PcS.took
  rw [if_pos h]
  show s.hv - _ + _ = _ ∧ _
  omega
theorem PcS.took_no (s : PcS) (n : Int) (h : s.has n = false) : s.took n = s := by
  unfold PcS.took
  rw [if_neg (by rw [h]; decide)]
/-- The first rate of an empty bucket. -/
theorem PcS.first (S tick : Nat) (at_ : Int) (x : Nat) (h0 : 0 ≤ at_) (h1 : at_ ≤ 4611686018427387904) : ((PcS.mk (64000000 * S) tick 0 0 0).fill at_).rated x = ⟨64000000 * S, tick, x, 0, at_⟩ := by
  have e1 : (PcS.mk (64000000 * S) tick 0 0 0).at_ at_ = at_ := by unfold PcS.at_; show max (0 : Int) _ = _; omega
  unfold PcS.fill
  rw [e1]
  unfold PcS.to PcS.rated PcS.cap
  simp only
  have e2 : M.mulT 0 (at_ - 0).toNat = 0 := by unfold M.mulT; simp
  rw [e2]
  have e3 : M.addT 0 0 = 0 := rfl
  rw [e3, Nat.zero_min, Nat.zero_min]
end Go.Proofs.YtnhlachoimlhhaaGreatDoor

namespace Go.Proofs.YtnhlachoimlhhaaGreatDoor
open Go.ChangeShapes Go.WideShapes Go.ChangeAt Go.RowKit
set_option linter.unusedVariables false
set_option linter.unusedSimpArgs false

def pcCells (s : PcS) : Array Value := #[.int .u64 s.least, .int .u64 s.tick, .int .u64 s.rate, .int .u64 s.hv, .int .i64 s.last]
def PcAt (s : PcS) (C : Nat) (w : World) : Prop := BlkIs (pcCells s) 138 C w
theorem PcAt.cells {s : PcS} {C : Nat} {w : World} (h : PcAt s C w) : w.cell? ⟨C, 0, none⟩ = some (.int .u64 s.least) ∧ w.cell? ⟨C, 1, none⟩ = some (.int .u64 s.tick) ∧ w.cell? ⟨C, 2, none⟩ = some (.int .u64 s.rate) ∧ w.cell? ⟨C, 3, none⟩ = some (.int .u64 s.hv) ∧ w.cell? ⟨C, 4, none⟩ = some (.int .i64 s.last) :=
  ⟨BlkIs.cell h 0, BlkIs.cell h 1, BlkIs.cell h 2, BlkIs.cell h 3, BlkIs.cell h 4⟩
theorem paceCounts_any (n : Int) (w : World) : Calls Tryz.prog 85 #[.int .i64 n] w fun e w' => e = .returned (.bool (decide (0 ≤ n) && decide (n ≤ 65535))) ∧ w = w' := by
  by_cases h : 0 ≤ n
  · have h2 : decide (0 ≤ n) = true := decide_eq_true h
    go_enter Tryz.func85, Tryz.ntmps85
    go_wp2
    go_ret
    exact ⟨by rw [h2]; rfl, rfl⟩
  · have h2 : decide (0 ≤ n) = false := decide_eq_false h
    go_enter Tryz.func85, Tryz.ntmps85
    go_wp2
    go_ret
    exact ⟨rfl, rfl⟩
theorem paceAmount_any (n : Nat) (hn : n ≤ 65536) (w : World) : Calls Tryz.prog 86 #[.int .i64 n] w fun e w' => e = .returned (.int .u64 (64000000 * n : Nat)) ∧ w = w' := by
  go_enter Tryz.func86, Tryz.ntmps86
  go_wp2
  go_ret
  exact ⟨M.ret_int (by (try simp only [IntKind.wrap_u64]); omega), rfl⟩
theorem paceCap_any (s : PcS) (h1 : s.rate < 18446744073709551616) (h2 : s.tick < 18446744073709551616) (C : Nat) (w : World) (h : PcAt s C w) :
    Calls Tryz.prog 44 #[.pointer (some ⟨C, 0, none⟩)] w fun e w' => e = .returned (.int .u64 s.cap) ∧ ∃ n, w' = w.drewN n := by
  obtain ⟨c0, c1, c2, _, _⟩ := h.cells
  have HM := Lib.hid (fun W => fixMul_any s.rate s.tick h1 h2 W)
  obtain ⟨q, hq⟩ : ∃ q, s.cap = q := ⟨_, rfl⟩
  obtain ⟨m1, m2, m3, _, _, _⟩ := mxs s.least (M.mulT s.rate s.tick) q hq
  rw [hq]
  generalize M.mulT s.rate s.tick = V at *
  generalize s.least = L at *
  generalize s.rate = R at *
  generalize s.tick = T at *
  clear h hq
  go_enter Tryz.func44, Tryz.ntmps44
  go_wp2
  go_quiet ((go_at_call 88; exact Calls.quiet_of_same ((HM.out _).mono fun e w' ⟨q1, q2⟩ => ⟨q1, q2.symm⟩)))
  go_wp2
  go_ret
  exact ⟨rfl, _, rfl⟩
theorem PcAt.set {s t : PcS} {C : Nat} {w : World} (h : PcAt s C w) (i : Nat) (v : Value) (e : (pcCells s).setIfInBounds i v = pcCells t) : PcAt t C (w.setCell ⟨C, i, none⟩ v) := by
  have h9 := BlkIs.set h i v
  rw [e] at h9
  exact h9
set_option maxHeartbeats 2000000 in
set_option maxRecDepth 100000 in
theorem paceFill_any (s : PcS) (hs : s.Ok) (now : Int) (C : Nat) (w : World) (h : PcAt s C w) :
    Calls Tryz.prog 84 #[.pointer (some ⟨C, 0, none⟩), .int .i64 now] w fun e w' => e = .returned (.tuple #[]) ∧ PcAt (s.fill now) C w' ∧ Kept [C] w w' := by
  obtain ⟨c0, c1, c2, c3, c4⟩ := h.cells
  have f3 := BlkIs.free h 3
  have f4 := BlkIs.free h 4
  obtain ⟨T0, hT0⟩ : ∃ T0, min now 4611686018427387904 = T0 := ⟨_, rfl⟩
  obtain ⟨T, hT⟩ : ∃ T, max s.last T0 = T := ⟨_, rfl⟩
  obtain ⟨i1, i2, i3, i4, i5⟩ := mni _ _ T0 hT0
  obtain ⟨j1, j2, j3, j4, j5⟩ := mxi _ _ T hT
  have hl1 := hs.last.1
  have hl2 := hs.last.2
  obtain ⟨D, hD⟩ : ∃ D : Nat, T - s.last = (D : Int) := ⟨(T - s.last).toNat, by omega⟩
  have hDb : D ≤ 4611686018427387904 := by omega
  obtain ⟨V, hV⟩ : ∃ V, M.mulT s.rate D = V := ⟨_, rfl⟩
  obtain ⟨A, hA⟩ : ∃ A, M.addT s.hv V = A := ⟨_, rfl⟩
  have hVl : V < 18446744073709551616 := by rw [← hV]; exact M.mulT_lt _ _
  have HM : Hid (∀ W, Calls Tryz.prog 88 #[.int .u64 s.rate, .int .u64 D] W fun e w' => e = .returned (.int .u64 V) ∧ W = w') := Lib.hid (fun W => by rw [← hV]; exact fixMul_any s.rate D hs.rate (by omega) W)
  have HA : Hid (∀ W, Calls Tryz.prog 87 #[.int .u64 s.hv, .int .u64 V] W fun e w' => e = .returned (.int .u64 A) ∧ W = w') := Lib.hid (fun W => by rw [← hA]; exact fixSum_any s.hv V hs.hv hVl W)
  have HC := Lib.hid (fun W (hW : PcAt s C W) => paceCap_any s hs.rate (by have := hs.tick; omega) C W hW)
  obtain ⟨q, hq⟩ : ∃ q, min A s.cap = q := ⟨_, rfl⟩
  obtain ⟨m1, m2, m3, _, _, _⟩ := mns A s.cap q hq
  have HR : Hid (s.fill now = { s with hv := q, last := T }) := Lib.hid (by
    have e1 : s.at_ now = T := by unfold PcS.at_; rw [hT0, hT]
    unfold PcS.fill
    rw [e1]
    unfold PcS.to
    rw [hD, Int.toNat_natCast, hV, hA, hq])
  have HH := Lib.hid h
  generalize s.cap = K at *
  clear h hT0 hT hV hA hq i3 i4 i5 j3 j4 j5
  go_enter Tryz.func84, Tryz.ntmps84
  go_upto_region 1 with fail
  go_quiet ((go_at_call 88; exact Calls.quiet_of_same ((HM.out _).mono fun e w' ⟨q1, q2⟩ => ⟨q1, q2.symm⟩)))
  have k3 : (w.drewN nq).cell? ⟨C, 3, none⟩ = some (.int .u64 s.hv) := c3
  have H1 : Hid (PcAt s C (w.drewN nq)) := Lib.hid (BlkIs.drewN HH.out nq)
  have HK1 : Hid (Kept [C] w (w.drewN nq)) := Lib.hid ((Kept.refl _ _).drewN nq)
  have HC1 := Lib.hid (HC.out _ H1.out)
  clear c0 c1 c2 c3 c4 f3 f4 HH HC
  generalize w.drewN nq = W1 at *
  have f3 := BlkIs.free H1.out 3
  go_upto_region 3 with (first
    | (go_at_call 87; (with_reducible refine (HA.out _).mono ?_); rintro e w1 ⟨rfl, rfl⟩)
    | (go_at_call 44; (with_reducible refine HC1.out.mono ?_); rintro e w2 ⟨rfl, n2, rfl⟩))
  obtain ⟨W2, hW2⟩ : ∃ W2, (W1.drewN n2).setCell ⟨C, 3, none⟩ (.int .u64 q) = W2 := ⟨_, rfl⟩
  have h2 : PcAt { s with hv := q } C W2 := by rw [← hW2]; exact PcAt.set (BlkIs.drewN H1.out n2) 3 _ rfl
  have k2 : Kept [C] w W2 := by rw [← hW2]; exact (HK1.out.drewN n2).setCell (.inl (by simp)) _
  rw [hW2]
  have c4 := h2.cells.2.2.2.2
  have f4 := BlkIs.free h2 4
  have H2 := Lib.hid h2
  have HK2 := Lib.hid k2
  clear hW2 h2 k2 f3 k3 H1 HK1 HC1
  go_wp2
  go_end0
  rw [HR.out]
  exact ⟨rfl, H2.out.set 4 _ rfl, HK2.out.setCell (.inl (by simp)) _⟩
set_option maxHeartbeats 2000000 in
set_option maxRecDepth 100000 in
theorem paceRate_any (s : PcS) (hs : s.Ok) (now : Int) (x : Nat) (hx : x < 18446744073709551616) (C : Nat) (w : World) (h : PcAt s C w) :
    Calls Tryz.prog 40 #[.pointer (some ⟨C, 0, none⟩), .int .i64 now, .int .u64 x] w fun e w' => e = .returned (.tuple #[]) ∧ PcAt ((s.fill now).rated x) C w' ∧ Kept [C] w w' := by
  have HF := Lib.hid (paceFill_any s hs now C w h)
  have hf := hs.fill now
  obtain ⟨q, hq⟩ : ∃ q, min (s.fill now).hv (max (s.fill now).least (M.mulT x (s.fill now).tick)) = q := ⟨_, rfl⟩
  obtain ⟨m1, m2, m3, _, _, _⟩ := mns _ _ q hq
  have HR : Hid ((s.fill now).rated x = { s.fill now with rate := x, hv := q }) := Lib.hid (by unfold PcS.rated; rw [hq])
  have HC : Hid (∀ W, PcAt { s.fill now with rate := x } C W → Calls Tryz.prog 44 #[.pointer (some ⟨C, 0, none⟩)] W fun e w' => e = .returned (.int .u64 (max (s.fill now).least (M.mulT x (s.fill now).tick) : Nat)) ∧ ∃ n, w' = W.drewN n) := Lib.hid (fun W hW => paceCap_any { s.fill now with rate := x } hx (by have := hf.tick; show (s.fill now).tick < _; omega) C W hW)
  generalize max (s.fill now).least (M.mulT x (s.fill now).tick) = K at *
  generalize s.fill now = t at *
  clear h hq hf
  go_enter Tryz.func40, Tryz.ntmps40
  go_upto_region 2 with (go_at_call 84; (with_reducible refine HF.out.mono ?_); rintro e W1 ⟨rfl, h1, k1⟩; have c2 := h1.cells.2.2.1; have f2 := BlkIs.free h1 2)
  go_upto_region 3 with fail
  obtain ⟨W2, hW2⟩ : ∃ W2, W1.setCell ⟨C, 2, none⟩ (.int .u64 x) = W2 := ⟨_, rfl⟩
  have h2 : PcAt { t with rate := x } C W2 := by rw [← hW2]; exact h1.set 2 _ rfl
  have k2 : Kept [C] w W2 := by rw [← hW2]; exact k1.setCell (.inl (by simp)) _
  rw [hW2]
  have c3 : W2.cell? ⟨C, 3, none⟩ = some (.int .u64 t.hv) := h2.cells.2.2.2.1
  have f3 := BlkIs.free h2 3
  have HC2 := Lib.hid (fun n => HC.out (W2.drewN n) (BlkIs.drewN h2 n))
  have H2 := Lib.hid h2
  have HK2 := Lib.hid k2
  clear hW2 h2 k2 h1 k1 c2 f2 HC HF
  generalize t.hv = hv at *
  go_region_with (go_at_call 44; (first | (with_reducible refine (HC2.out _).mono ?_) | (refine (HC2.out 1).mono ?_)); rintro e w2 ⟨rfl, n2, rfl⟩)
  all_goals
    go_wp2
    go_end0
    rw [HR.out]
    exact ⟨rfl, PcAt.set (s := { t with rate := x, hv := hv }) (BlkIs.drewN H2.out _) 3 _ rfl, (HK2.out.drewN _).setCell (.inl (by simp)) _⟩
theorem paceNew_any (S tick : Nat) (h1 : 1 ≤ S) (h2 : S ≤ 1400) (h3 : tick ≤ 1000000) (w : World) :
    Calls Tryz.prog 57 #[.int .i64 S, .int .i64 tick] w fun e w' => ∃ C, e = .returned (.pointer (some ⟨C, 0, none⟩)) ∧ PcAt ⟨64000000 * S, tick, 0, 0, 0⟩ C w' ∧ w.heap.size ≤ C ∧ Below w.heap.size w w' := by
  have d1 : decide ((S : Int) < 1) = false := decide_eq_false (by omega)
  have d2 : decide (1400 < (S : Int)) = false := decide_eq_false (by omega)
  have d3 : decide ((tick : Int) < 0) = false := decide_eq_false (by omega)
  have d4 : decide (1000000 < (tick : Int)) = false := decide_eq_false (by omega)
  have e1 : (64000000 : Int) * (S : Int) = ((64000000 * S : Nat) : Int) := by omega
  obtain ⟨L, hL⟩ : ∃ L, 64000000 * S = L := ⟨_, rfl⟩
  rw [hL] at e1 ⊢
  have hLb : L ≤ 89600000000 := by omega
  have e2 : IntKind.u64.wrap (64000000 * (S : Int)) = (L : Int) := by rw [e1, IntKind.wrap_u64]; omega
  clear hL
  go_enter Tryz.func57, Tryz.ntmps57
  go_wp2
  go_ret
  exact ⟨_, rfl, BlkIs.new _ _ _, Nat.le_refl _, bel_alloc _ _⟩
end Go.Proofs.YtnhlachoimlhhaaGreatDoor

namespace Go.Proofs.YtnhlachoimlhhaaGreatDoor
open Go.ChangeShapes Go.WideShapes Go.ChangeAt Go.RowKit
set_option linter.unusedVariables false
set_option linter.unusedSimpArgs false

theorem PcS.has_out (s : PcS) (n : Int) (h : ¬ (0 ≤ n ∧ n ≤ 65535)) : s.has n = false := by
  unfold PcS.has
  by_cases h1 : 0 ≤ n
  · rw [show decide (n ≤ 65535) = false from decide_eq_false (fun e => h ⟨h1, e⟩)]; simp
  · rw [show decide (0 ≤ n) = false from decide_eq_false h1]; simp
theorem PcS.has_in (s : PcS) (n : Nat) (h : n ≤ 65535) : s.has n = decide (64000000 * n ≤ s.hv) := by
  unfold PcS.has
  rw [show decide ((0 : Int) ≤ (n : Int)) = true from decide_eq_true (by omega), show decide ((n : Int) ≤ 65535) = true from decide_eq_true (by omega), Int.toNat_natCast]
  simp
set_option maxHeartbeats 2000000 in
set_option maxRecDepth 100000 in
theorem paceMay_any (s : PcS) (hs : s.Ok) (now n : Int) (C : Nat) (w : World) (h : PcAt s C w) :
    Calls Tryz.prog 41 #[.pointer (some ⟨C, 0, none⟩), .int .i64 now, .int .i64 n] w fun e w' => e = .returned (.bool ((s.fill now).has n)) ∧ PcAt (s.fill now) C w' ∧ Kept [C] w w' := by
  have HF := Lib.hid (paceFill_any s hs now C w h)
  have hf := (hs.fill now).hv
  have HCT := Lib.hid (paceCounts_any n)
  generalize s.fill now = t at *
  clear h
  by_cases hn : 0 ≤ n ∧ n ≤ 65535
  · obtain ⟨m, rfl⟩ : ∃ m : Nat, n = (m : Int) := ⟨n.toNat, by omega⟩
    have hm : m ≤ 65535 := by omega
    have e1 : (decide ((0 : Int) ≤ (m : Int)) && decide ((m : Int) ≤ 65535)) = true := by simp; omega
    rw [e1] at HCT
    have HAM := Lib.hid (paceAmount_any m (by omega))
    rw [t.has_in m hm]
    obtain ⟨A, hA⟩ : ∃ A, 64000000 * m = A := ⟨_, rfl⟩
    rw [hA] at HAM ⊢
    obtain ⟨hv, hhv⟩ : ∃ hv, t.hv = hv := ⟨_, rfl⟩
    rw [hhv] at hf ⊢
    have HV := Lib.hid hhv
    have HB : Hid (decide ((A : Int) ≤ (hv : Int)) = decide (A ≤ hv)) := Lib.hid (by simp)
    clear hhv e1 hn hA
    go_enter Tryz.func41, Tryz.ntmps41
    go_upto_region 4 with (go_at_call 84; (with_reducible refine HF.out.mono ?_); rintro e W1 ⟨rfl, h1, k1⟩; have c3 := h1.cells.2.2.2.1; rw [HV.out] at c3)
    have H1 := Lib.hid h1
    have HK := Lib.hid k1
    clear h1 k1
    go_quiet ((first
      | (go_at_call 85; exact Calls.quiet_of_same ((HCT.out _).mono fun e w' ⟨q1, q2⟩ => ⟨q1, q2.symm⟩))
      | (go_at_call 86; exact Calls.quiet_of_same ((HAM.out _).mono fun e w' ⟨q1, q2⟩ => ⟨q1, q2.symm⟩))))
    go_wp2
    go_ret
    exact ⟨rfl, BlkIs.drewN H1.out _, HK.out.drewN _⟩
  · rw [t.has_out n hn]
    have e1 : (decide ((0 : Int) ≤ n) && decide (n ≤ 65535)) = false := by
      by_cases h1 : 0 ≤ n
      · rw [show decide (n ≤ 65535) = false from decide_eq_false (fun e => hn ⟨h1, e⟩)]; simp
      · rw [show decide (0 ≤ n) = false from decide_eq_false h1]; simp
    rw [e1] at HCT
    clear e1 hn
    go_enter Tryz.func41, Tryz.ntmps41
    go_upto_region 4 with (go_at_call 84; (with_reducible refine HF.out.mono ?_); rintro e W1 ⟨rfl, h1, k1⟩)
    have H1 := Lib.hid h1
    have HK := Lib.hid k1
    clear h1 k1
    go_quiet ((go_at_call 85; exact Calls.quiet_of_same ((HCT.out _).mono fun e w' ⟨q1, q2⟩ => ⟨q1, q2.symm⟩)))
    go_wp2
    go_ret
    exact ⟨rfl, BlkIs.drewN H1.out _, HK.out.drewN _⟩
set_option maxHeartbeats 2000000 in
set_option maxRecDepth 100000 in
theorem paceTake_any (s : PcS) (hs : s.Ok) (now n : Int) (C : Nat) (w : World) (h : PcAt s C w) :
    Calls Tryz.prog 42 #[.pointer (some ⟨C, 0, none⟩), .int .i64 now, .int .i64 n] w fun e w' => e = .returned (.bool ((s.fill now).has n)) ∧ PcAt ((s.fill now).took n) C w' ∧ Kept [C] w w' := by
  have HM := Lib.hid (paceMay_any s hs now n C w h)
  have hf := (hs.fill now).hv
  generalize s.fill now = t at *
  clear h
  cases hb : t.has n with
  | false =>
    rw [hb] at HM
    rw [t.took_no n hb]
    go_enter Tryz.func42, Tryz.ntmps42
    go_wp2_with (go_at_call 41; (with_reducible refine HM.out.mono ?_); rintro e W1 ⟨rfl, h1, k1⟩)
    go_ret
    exact ⟨rfl, h1, k1⟩
  | true =>
    rw [hb] at HM
    have hin : 0 ≤ n ∧ n ≤ 65535 := by
      refine Decidable.byContradiction fun e => ?_
      rw [t.has_out n e] at hb
      cases hb
    obtain ⟨m, rfl⟩ : ∃ m : Nat, n = (m : Int) := ⟨n.toNat, by omega⟩
    have HAM := Lib.hid (paceAmount_any m (by omega))
    obtain ⟨g1, g2⟩ := t.took_hv m hb
    have HT : Hid (t.took m = { t with hv := t.hv - 64000000 * m }) := Lib.hid (by unfold PcS.took; rw [if_pos hb, Int.toNat_natCast])
    rw [Int.toNat_natCast] at g2
    obtain ⟨A, hA⟩ : ∃ A, 64000000 * m = A := ⟨_, rfl⟩
    rw [hA] at HAM g2 HT
    obtain ⟨D, hD⟩ : ∃ D, t.hv - A = D := ⟨_, rfl⟩
    rw [hD] at HT
    obtain ⟨hv, hhv⟩ : ∃ hv, t.hv = hv := ⟨_, rfl⟩
    rw [hhv] at g2 hf hD
    have HV := Lib.hid hhv
    have i1 : IntKind.u64.wrap ((hv : Int) - (A : Int)) = (D : Int) := by rw [IntKind.wrap_u64]; omega
    clear hhv hA hin g1
    go_enter Tryz.func42, Tryz.ntmps42
    go_upto_region 3 with (go_at_call 41; (with_reducible refine HM.out.mono ?_); rintro e W1 ⟨rfl, h1, k1⟩; have c3 := h1.cells.2.2.2.1; rw [HV.out] at c3; have f3 := BlkIs.free h1 3)
    have H1 := Lib.hid h1
    have HK := Lib.hid k1
    clear h1 k1 hD
    go_region_with (go_at_call 86; (with_reducible refine (HAM.out _).mono ?_); rintro e w2 ⟨rfl, rfl⟩)
    all_goals
      go_wp2
      go_ret
      rw [HT.out]
      refine ⟨rfl, ?_, ?_⟩
      · first
          | exact (PcAt.set H1.out 3 _ rfl).below (bel_drewN _ 1)
          | exact PcAt.set (BlkIs.drewN H1.out _) 3 _ rfl
      · first
          | exact (HK.out.setCell (.inl (by simp)) _).drew
          | exact (HK.out.drewN _).setCell (.inl (by simp)) _
end Go.Proofs.YtnhlachoimlhhaaGreatDoor

namespace Go.Proofs.YtnhlachoimlhhaaGreatDoor
open Go.ChangeShapes Go.WideShapes Go.ChangeAt Go.RowKit
set_option linter.unusedVariables false
set_option linter.unusedSimpArgs false

end Go.Proofs.YtnhlachoimlhhaaGreatDoor
