/-
  Package win: what lies behind its pointer; its small calls.
  Package win: halving; waiting in vain.
  Package win: how it grows; its small answers.
  Package win: the furthest one of lists; what is news; what is heard.
  Package win: what is news; what is heard.
  Package win: what is heard, in general.
-/
import Derived.Test.YtnhlachoimlhhaaGreatDoorRttW
import Derived.Test.YtnhlachoimlhhaaGreatDoorSeqA
import Derived.Laws.Rows
namespace Go.Proofs.YtnhlachoimlhhaaGreatDoor
open Go.ChangeShapes Go.WideShapes Go.ChangeAt Go.RowKit
set_option linter.unusedVariables false
set_option linter.unusedSimpArgs false

/-- A window's numbers; the last number that was sent, the one at the last halving, each with whether there is one. -/
structure WinS where
  cwnd : Int
  slow : Int
  pipe : Int
  count : Int
  ln : Nat
  lk : Bool
  hn : Nat
  hk : Bool
  due : Int
  runs : Bool
def WinS.init : WinS := ⟨3, 1000000, 0, 0, 0, false, 0, false, 0, false⟩
structure WinS.ok (s : WinS) : Prop where
  b0 : 1 ≤ s.cwnd ∧ s.cwnd ≤ 1099511627776
  b1 : 1 ≤ s.slow ∧ s.slow ≤ 1099511627776
  b2 : 0 ≤ s.pipe ∧ s.pipe ≤ 1099511627776
  b3 : 0 ≤ s.count ∧ s.count ≤ 1099511627776
  b4 : s.ln < 18446744073709551616
  b5 : s.hn < 18446744073709551616
theorem WinS.ok_init : WinS.init.ok := ⟨by decide, by decide, by decide, by decide, by decide, by decide⟩
def M.winDue (now rto : Int) : Int := min (min now 4611686018427387904 + rto) 4611686018427387904
def WinS.run (s : WinS) (due : Int) : WinS := { s with due := due, runs := true }
def WinS.stop (s : WinS) : WinS := { s with due := 0, runs := false }
/-- One more was sent. -/
def WinS.sent (s : WinS) (n : Nat) (due : Int) : WinS := if s.runs = true then { s with pipe := s.pipe + 1, ln := n, lk := true } else { s with pipe := s.pipe + 1, ln := n, lk := true, due := due, runs := true }
def WinS.halve (s : WinS) : WinS := { s with slow := max (s.cwnd / 2) 1, count := 0, hn := s.ln, hk := s.lk }
def winCells (s : WinS) (D : Nat) : Array Value := #[.int .i64 s.cwnd, .int .i64 s.slow, .int .i64 s.pipe, .int .i64 s.count, .pointer (some ⟨D, 0, none⟩), .int .u64 s.ln, .bool s.lk, .int .u64 s.hn, .bool s.hk, .int .i64 s.due, .bool s.runs]
/-- A window at block C, its times at block D. -/
structure WinAt (s : WinS) (t : RttS) (C D : Nat) (w : World) : Prop where
  win : BlkIs (winCells s D) 152 C w
  rtt : RttBlk t D w
  ne : C ≠ D
theorem WinAt.kept {s : WinS} {t : RttS} {C D : Nat} {S : List Nat} {w w' : World} (h : WinAt s t C D w) (k : Kept S w w') (h1 : C ∉ S) (h2 : D ∉ S) : WinAt s t C D w' := ⟨h.win.kept k h1, BlkIs.kept h.rtt k h2, h.ne⟩
theorem WinAt.drewN {s : WinS} {t : RttS} {C D : Nat} {w : World} (h : WinAt s t C D w) (n : Nat) : WinAt s t C D (w.drewN n) := ⟨h.win, h.rtt, h.ne⟩
theorem WinAt.below {s : WinS} {t : RttS} {C D : Nat} {w w' : World} (h : WinAt s t C D w) (k : Below w.heap.size w w') : WinAt s t C D w' := ⟨h.win.below k, BlkIs.below h.rtt k, h.ne⟩

theorem winNew_any (w : World) : Calls Tryz.prog 75 #[] w fun e w' => ∃ C D, e = .returned (.pointer (some ⟨C, 0, none⟩)) ∧ WinAt WinS.init RttS.zero C D w' ∧ w.heap.size ≤ C ∧ w.heap.size ≤ D ∧ Below w.heap.size w w' := by
  go_enter Tryz.func75, Tryz.ntmps75
  go_wp2_with (go_at_call 112; refine (rttNew_any _).mono ?_; rintro e w1 ⟨rfl, rfl⟩)
  go_ret
  refine ⟨w.heap.size + 1, w.heap.size, rfl, ⟨?_, BlkIs.alloc (BlkIs.new _ _ _) _, by omega⟩, by omega, Nat.le_refl _, bel_trans (bel_alloc _ _) (bel_alloc _ _)⟩
  have h := BlkIs.new (winCells WinS.init w.heap.size) 152 (w.alloc (.cells (rttCells RttS.zero) 191))
  simp only [World.size_alloc] at h
  exact h
theorem winMay_any (s : WinS) (t : RttS) (C D : Nat) (w : World) (h : WinAt s t C D w) :
    Calls Tryz.prog 138 #[.pointer (some ⟨C, 0, none⟩)] w fun e w' => e = .returned (.bool (decide (s.pipe < s.cwnd))) ∧ ∃ n, w' = w.drewN n := by
  have c0 : w.cell? ⟨C, 0, none⟩ = some (.int .i64 s.cwnd) := BlkIs.cell h.win 0
  have c2 : w.cell? ⟨C, 2, none⟩ = some (.int .i64 s.pipe) := BlkIs.cell h.win 2
  clear h
  go_enter Tryz.func138, Tryz.ntmps138
  go_wp2
  go_quiet (fail)
  go_wp2
  go_ret
  exact ⟨rfl, _, rfl⟩
theorem winRun_any (s : WinS) (t : RttS) (ht : t.ok) (now : Int) (hn : -9223372036854775808 ≤ now ∧ now ≤ 9223372036854775807) (C D : Nat) (w : World) (h : WinAt s t C D w) :
    Calls Tryz.prog 173 #[.pointer (some ⟨C, 0, none⟩), .int .i64 now] w fun e w' => e = .returned (.tuple #[]) ∧ WinAt (s.run (M.winDue now t.rto)) t C D w' ∧ Kept [C] w w' := by
  have HH := Lib.hid h
  have HR := Lib.hid (rttRto_any t ht D w h.rtt)
  obtain ⟨r0, r1⟩ := ht.rto
  generalize t.rto = R at *
  obtain ⟨E, hE⟩ : ∃ E, (if 4611686018427387904 < now then 4611686018427387904 else now) = E := ⟨_, rfl⟩
  have hE1 : E ≤ 4611686018427387904 ∧ -9223372036854775808 ≤ E := by rw [← hE]; split <;> omega
  obtain ⟨F, hF⟩ : ∃ F, (if 4611686018427387904 < E + R then 4611686018427387904 else E + R) = F := ⟨_, rfl⟩
  have HD : Hid (M.winDue now R = F) := Lib.hid (by rw [← hF, ← hE]; unfold M.winDue; split <;> split <;> omega)
  rw [HD.out]
  obtain ⟨e1, e2⟩ := hE1
  have c4 : w.cell? ⟨C, 4, none⟩ = some (.pointer (some ⟨D, 0, none⟩)) := BlkIs.cell h.win 4
  have c9 : w.cell? ⟨C, 9, none⟩ = some (.int .i64 s.due) := BlkIs.cell h.win 9
  have c10 : w.cell? ⟨C, 10, none⟩ = some (.bool s.runs) := BlkIs.cell h.win 10
  have f9 := BlkIs.free h.win 9
  have f10 := BlkIs.free h.win 10
  clear h HD
  go_enter Tryz.func173, Tryz.ntmps173
  go_wp2_with (go_at_call 147; (with_reducible refine HR.out.mono ?_); rintro e w1 ⟨rfl, n, rfl⟩)
  go_end0
  refine ⟨rfl, ⟨BlkIs.set (BlkIs.set (BlkIs.drewN HH.out.win n) 9 _) 10 _, ?_, HH.out.ne⟩, (((Kept.refl _ _).drewN n).setCell (.inl (by simp)) _).setCell (.inl (by simp)) _⟩
  exact BlkIs.far (BlkIs.far (BlkIs.drewN HH.out.rtt n) (by simp; exact fun h => HH.out.ne h.symm) _) (by simp; exact fun h => HH.out.ne h.symm) _
theorem winStop_any (s : WinS) (t : RttS) (C D : Nat) (w : World) (h : WinAt s t C D w) :
    Calls Tryz.prog 345 #[.pointer (some ⟨C, 0, none⟩)] w fun e w' => e = .returned (.tuple #[]) ∧ WinAt s.stop t C D w' ∧ Kept [C] w w' := by
  have HH := Lib.hid h
  have c9 : w.cell? ⟨C, 9, none⟩ = some (.int .i64 s.due) := BlkIs.cell h.win 9
  have c10 : w.cell? ⟨C, 10, none⟩ = some (.bool s.runs) := BlkIs.cell h.win 10
  have f9 := BlkIs.free h.win 9
  have f10 := BlkIs.free h.win 10
  clear h
  go_enter Tryz.func345, Tryz.ntmps345
  go_wp2
  go_end0
  refine ⟨rfl, ⟨BlkIs.set (BlkIs.set HH.out.win 9 _) 10 _, ?_, HH.out.ne⟩, ((Kept.refl _ _).setCell (.inl (by simp)) _).setCell (.inl (by simp)) _⟩
  exact BlkIs.far (BlkIs.far HH.out.rtt (by simp; exact fun h => HH.out.ne h.symm) _) (by simp; exact fun h => HH.out.ne h.symm) _
theorem winDue_any (s : WinS) (t : RttS) (C D : Nat) (w : World) (h : WinAt s t C D w) :
    Calls Tryz.prog 139 #[.pointer (some ⟨C, 0, none⟩)] w fun e w' => e = .returned (.tuple #[.int .i64 s.due, .bool s.runs]) ∧ ∃ n, w' = w.drewN n := by
  have c9 : w.cell? ⟨C, 9, none⟩ = some (.int .i64 s.due) := BlkIs.cell h.win 9
  have c10 : w.cell? ⟨C, 10, none⟩ = some (.bool s.runs) := BlkIs.cell h.win 10
  clear h
  go_enter Tryz.func139, Tryz.ntmps139
  go_wp2
  go_quiet (fail)
  go_wp2
  go_ret2
  exact ⟨rfl, _, rfl⟩
theorem winCwnd_any (s : WinS) (t : RttS) (C D : Nat) (w : World) (h : WinAt s t C D w) :
    Calls Tryz.prog 54 #[.pointer (some ⟨C, 0, none⟩)] w fun e w' => e = .returned (.int .i64 s.cwnd) ∧ w = w' := by
  have c0 : w.cell? ⟨C, 0, none⟩ = some (.int .i64 s.cwnd) := BlkIs.cell h.win 0
  clear h
  go_enter Tryz.func54, Tryz.ntmps54
  go_wp2
  go_ret
  exact ⟨rfl, rfl⟩
set_option maxHeartbeats 1000000 in
theorem winSent_yes (s : WinS) (hs : s.ok) (hp : s.pipe < s.cwnd) (t : RttS) (ht : t.ok) (n : Nat) (hnn : n < 18446744073709551616) (now : Int) (hn : -9223372036854775808 ≤ now ∧ now ≤ 9223372036854775807) (C D : Nat) (w : World) (h : WinAt s t C D w) :
    Calls Tryz.prog 137 #[.pointer (some ⟨C, 0, none⟩), .int .u64 n, .int .i64 now] w fun e w' => e = .returned (.bool true) ∧ WinAt (s.sent n (M.winDue now t.rto)) t C D w' ∧ Kept [C] w w' := by
  have HH := Lib.hid h
  have HM := Lib.hid (winMay_any s t C D w h)
  rw [decide_eq_true hp] at HM
  obtain ⟨p0, p1⟩ := hs.b2
  have c2 : w.cell? ⟨C, 2, none⟩ = some (.int .i64 s.pipe) := BlkIs.cell h.win 2
  have c5 : w.cell? ⟨C, 5, none⟩ = some (.int .u64 s.ln) := BlkIs.cell h.win 5
  have c6 : w.cell? ⟨C, 6, none⟩ = some (.bool s.lk) := BlkIs.cell h.win 6
  have c10 : w.cell? ⟨C, 10, none⟩ = some (.bool s.runs) := BlkIs.cell h.win 10
  have f2 := BlkIs.free h.win 2
  have f5 := BlkIs.free h.win 5
  have f6 := BlkIs.free h.win 6
  cases hr : s.runs with
  | true =>
    rw [hr] at c10
    have e : Hid (s.sent n (M.winDue now t.rto) = { s with pipe := s.pipe + 1, ln := n, lk := true }) := Lib.hid (by unfold WinS.sent; rw [if_pos hr])
    clear h hr
    go_enter Tryz.func137, Tryz.ntmps137
    go_wp2_with (go_at_call 138; (with_reducible refine HM.out.mono ?_); rintro e w1 ⟨rfl, n1, rfl⟩)
    go_ret
    refine ⟨rfl, ?_, (((((Kept.refl _ _).drewN n1).setCell (.inl (by simp)) _).setCell (.inl (by simp)) _).setCell (.inl (by simp)) _)⟩
    rw [e.out]
    have hne := HH.out.ne
    refine ⟨BlkIs.set (BlkIs.set (BlkIs.set (BlkIs.drewN HH.out.win n1) 2 _) 5 _) 6 _, ?_, hne⟩
    exact BlkIs.far (BlkIs.far (BlkIs.far (BlkIs.drewN HH.out.rtt n1) (by simp; exact fun h => hne h.symm) _) (by simp; exact fun h => hne h.symm) _) (by simp; exact fun h => hne h.symm) _
  | false =>
    rw [hr] at c10
    have e : Hid (s.sent n (M.winDue now t.rto) = ({ s with pipe := s.pipe + 1, ln := n, lk := true } : WinS).run (M.winDue now t.rto)) := Lib.hid (by unfold WinS.sent; rw [if_neg (by simp [hr])]; rfl)
    have HRUN : Hid (∀ W, WinAt { s with pipe := s.pipe + 1, ln := n, lk := true } t C D W → Calls Tryz.prog 173 #[.pointer (some ⟨C, 0, none⟩), .int .i64 now] W fun e w' => e = .returned (.tuple #[]) ∧ WinAt (({ s with pipe := s.pipe + 1, ln := n, lk := true } : WinS).run (M.winDue now t.rto)) t C D w' ∧ Kept [C] W w') := Lib.hid (fun W hW => winRun_any _ t ht now hn C D W hW)
    have HMID : Hid (∀ n1, WinAt { s with pipe := s.pipe + 1, ln := n, lk := true } t C D ((((w.drewN n1).setCell ⟨C, 2, none⟩ (.int .i64 (s.pipe + 1))).setCell ⟨C, 5, none⟩ (.int .u64 n)).setCell ⟨C, 6, none⟩ (.bool true))) := Lib.hid (fun n1 => by
      have hne := HH.out.ne
      refine ⟨BlkIs.set (BlkIs.set (BlkIs.set (BlkIs.drewN HH.out.win n1) 2 _) 5 _) 6 _, ?_, hne⟩
      exact BlkIs.far (BlkIs.far (BlkIs.far (BlkIs.drewN HH.out.rtt n1) (by simp; exact fun h => hne h.symm) _) (by simp; exact fun h => hne h.symm) _) (by simp; exact fun h => hne h.symm) _)
    clear h hr
    go_enter Tryz.func137, Tryz.ntmps137
    go_wp2_with (first
      | (go_at_call 138; (with_reducible refine HM.out.mono ?_); rintro e w1 ⟨rfl, n1, rfl⟩)
      | (go_at_call 173; (with_reducible refine (HRUN.out _ (HMID.out _)).mono ?_); rintro e w2 ⟨rfl, hw2, hk2⟩))
    go_ret
    refine ⟨rfl, by rw [e.out]; exact hw2, Kept.trans' ?_ hk2⟩
    exact (((((Kept.refl _ _).drewN n1).setCell (.inl (by simp)) _).setCell (.inl (by simp)) _).setCell (.inl (by simp)) _)
theorem winSent_no (s : WinS) (hp : ¬ s.pipe < s.cwnd) (t : RttS) (n : Nat) (now : Int) (C D : Nat) (w : World) (h : WinAt s t C D w) :
    Calls Tryz.prog 137 #[.pointer (some ⟨C, 0, none⟩), .int .u64 n, .int .i64 now] w fun e w' => e = .returned (.bool false) ∧ ∃ n, w' = w.drewN n := by
  have HM := Lib.hid (winMay_any s t C D w h)
  rw [decide_eq_false hp] at HM
  clear h
  go_enter Tryz.func137, Tryz.ntmps137
  go_wp2_with (go_at_call 138; (with_reducible refine HM.out.mono ?_); rintro e w1 ⟨rfl, n1, rfl⟩)
  go_ret
  exact ⟨rfl, _, rfl⟩
end Go.Proofs.YtnhlachoimlhhaaGreatDoor

namespace Go.Proofs.YtnhlachoimlhhaaGreatDoor
open Go.ChangeShapes Go.WideShapes Go.ChangeAt Go.RowKit
set_option linter.unusedVariables false
set_option linter.unusedSimpArgs false

theorem WinAt.cells {s : WinS} {t : RttS} {C D : Nat} {w : World} (h : WinAt s t C D w) : (w.cell? ⟨C, 0, none⟩ = some (.int .i64 s.cwnd) ∧ w.cell? ⟨C, 1, none⟩ = some (.int .i64 s.slow) ∧ w.cell? ⟨C, 2, none⟩ = some (.int .i64 s.pipe) ∧ w.cell? ⟨C, 3, none⟩ = some (.int .i64 s.count) ∧ w.cell? ⟨C, 4, none⟩ = some (.pointer (some ⟨D, 0, none⟩)) ∧
    w.cell? ⟨C, 5, none⟩ = some (.int .u64 s.ln) ∧ w.cell? ⟨C, 6, none⟩ = some (.bool s.lk) ∧ w.cell? ⟨C, 7, none⟩ = some (.int .u64 s.hn) ∧ w.cell? ⟨C, 8, none⟩ = some (.bool s.hk) ∧ w.cell? ⟨C, 9, none⟩ = some (.int .i64 s.due) ∧ w.cell? ⟨C, 10, none⟩ = some (.bool s.runs)) :=
  ⟨BlkIs.cell h.win 0, BlkIs.cell h.win 1, BlkIs.cell h.win 2, BlkIs.cell h.win 3, BlkIs.cell h.win 4, BlkIs.cell h.win 5, BlkIs.cell h.win 6, BlkIs.cell h.win 7, BlkIs.cell h.win 8, BlkIs.cell h.win 9, BlkIs.cell h.win 10⟩
/-- Its own cells turned: what its times are stays. -/
theorem WinAt.put {s s' : WinS} {t : RttS} {C D i : Nat} {v : Value} {w : World} (h : WinAt s t C D w) (e : (winCells s D).setIfInBounds i v = winCells s' D) : WinAt s' t C D (w.setCell ⟨C, i, none⟩ v) := by
  refine ⟨?_, BlkIs.far h.rtt (fun e => h.ne e.symm) _, h.ne⟩
  have h1 := BlkIs.set h.win i v
  rw [e] at h1
  exact h1
set_option maxHeartbeats 1000000 in
theorem winHalve_any (s : WinS) (hs : s.ok) (t : RttS) (C D : Nat) (w : World) (h : WinAt s t C D w) :
    Calls Tryz.prog 343 #[.pointer (some ⟨C, 0, none⟩)] w fun e w' => e = .returned (.tuple #[]) ∧ WinAt s.halve t C D w' ∧ Kept [C] w w' := by
  have HH := Lib.hid h
  obtain ⟨c0, c1, c2, c3, c4, c5, c6, c7, c8, c9, c10⟩ := h.cells
  have f1 := BlkIs.free h.win 1
  have f3 := BlkIs.free h.win 3
  have f7 := BlkIs.free h.win 7
  have f8 := BlkIs.free h.win 8
  obtain ⟨b0, b1⟩ := hs.b0
  obtain ⟨q, hq⟩ : ∃ q, s.cwnd.tdiv 2 = q := ⟨_, rfl⟩
  have hq2 : s.cwnd / 2 = q := by rw [← hq, Int.tdiv_eq_ediv_of_nonneg (by omega)]
  obtain ⟨S, hS⟩ : ∃ S, (if q < 1 then 1 else q) = S := ⟨_, rfl⟩
  have e : Hid (s.halve = { s with slow := S, count := 0, hn := s.ln, hk := s.lk }) := Lib.hid (by
    unfold WinS.halve
    rw [hq2, ← hS]
    congr 1
    split <;> omega)
  clear h c2 c4 c9 c10
  go_enter Tryz.func343, Tryz.ntmps343
  go_wp2
  go_end0
  refine ⟨rfl, ?_, ((((Kept.refl _ _).setCell (.inl (by simp)) _).setCell (.inl (by simp)) _).setCell (.inl (by simp)) _).setCell (.inl (by simp)) _⟩
  rw [e.out]
  have h1 : WinAt { s with slow := S } t C D _ := HH.out.put (i := 1) rfl
  have h2 : WinAt { s with slow := S, count := 0 } t C D _ := h1.put (i := 3) rfl
  have h3 : WinAt { s with slow := S, count := 0, hn := s.ln } t C D _ := h2.put (i := 7) rfl
  exact h3.put (i := 8) rfl
/-- One waited in vain. -/
def WinS.fire (s : WinS) : WinS := ({ s.halve with cwnd := 1, pipe := 0 } : WinS).stop
set_option maxHeartbeats 2000000 in
theorem winFire_yes (s : WinS) (hs : s.ok) (t : RttS) (ht : t.ok) (now : Int) (hn : -9223372036854775808 ≤ now ∧ now ≤ 9223372036854775807) (hr : s.runs = true) (hd : s.due ≤ min now 4611686018427387904) (C D : Nat) (w : World) (h : WinAt s t C D w) :
    Calls Tryz.prog 341 #[.pointer (some ⟨C, 0, none⟩), .int .i64 now] w fun e w' => e = .returned (.bool true) ∧ WinAt s.fire t.back C D w' ∧ Kept [C, D] w w' := by
  have HHA := Lib.hid (winHalve_any s hs t C D w h)
  obtain ⟨c0, c1, c2, c3, c4, c5, c6, c7, c8, c9, c10⟩ := h.cells
  rw [hr] at c10
  obtain ⟨E, hE⟩ : ∃ E, (if 4611686018427387904 < now then 4611686018427387904 else now) = E := ⟨_, rfl⟩
  have hd1 : decide (E < s.due) = false := decide_eq_false (by rw [← hE]; split <;> omega)
  have hne := h.ne
  have HB : Hid (∀ W, WinAt { s.halve with cwnd := 1, pipe := 0 } t C D W → Calls Tryz.prog 344 #[.pointer (some ⟨D, 0, none⟩)] W fun e w' => e = .returned (.tuple #[]) ∧ WinAt { s.halve with cwnd := 1, pipe := 0 } t.back C D w' ∧ Kept [D] W w') := Lib.hid (fun W hW => (rttBack_any t ht D W hW.rtt).mono fun e w' ⟨h1, h2, h3⟩ => ⟨h1, ⟨hW.win.kept h3 (by simp; exact hne), h2, hne⟩, h3⟩)
  have HS : Hid (∀ W, WinAt { s.halve with cwnd := 1, pipe := 0 } t.back C D W → Calls Tryz.prog 345 #[.pointer (some ⟨C, 0, none⟩)] W fun e w' => e = .returned (.tuple #[]) ∧ WinAt s.fire t.back C D w' ∧ Kept [C] W w') := Lib.hid (fun W hW => winStop_any _ _ C D W hW)
  clear h c0 c1 c2 c3 c4 c5 c6 c7 c8
  go_enter Tryz.func341, Tryz.ntmps341
  go_upto_region 4 with (go_at_call 343; (with_reducible refine HHA.out.mono ?_); rintro e w1 ⟨rfl, hw1, hk1⟩)
  obtain ⟨a0, _, a2, _, a4, _, _, _, _, _, _⟩ := hw1.cells
  have g0 := BlkIs.free hw1.win 0
  have g2 := BlkIs.free hw1.win 2
  have HK1 := Lib.hid hk1
  have HM : Hid (WinAt { s.halve with cwnd := 1, pipe := 0 } t C D ((w1.setCell ⟨C, 0, none⟩ (.int .i64 1)).setCell ⟨C, 2, none⟩ (.int .i64 0))) := Lib.hid (by
    have h1 : WinAt { s.halve with cwnd := 1 } t C D _ := hw1.put (i := 0) rfl
    exact h1.put (i := 2) rfl)
  clear hw1 hk1 c9 c10
  go_wp2_with (first
    | (go_at_call 344; (with_reducible refine (HB.out _ HM.out).mono ?_); rintro e w2 ⟨rfl, hw2, hk2⟩)
    | (go_at_call 345; (with_reducible refine (HS.out _ hw2).mono ?_); rintro e w3 ⟨rfl, hw3, hk3⟩))
  go_ret
  refine ⟨rfl, hw3, ?_⟩
  have k1 : Kept [C, D] w ((w1.setCell ⟨C, 0, none⟩ (.int .i64 1)).setCell ⟨C, 2, none⟩ (.int .i64 0)) := ((HK1.out.more (by simp)).setCell (.inl (by simp)) _).setCell (.inl (by simp)) _
  exact (k1.trans' (hk2.more (by simp))).trans' (hk3.more (by simp))
theorem winFire_no (s : WinS) (t : RttS) (now : Int) (hd : s.runs = false ∨ min now 4611686018427387904 < s.due) (C D : Nat) (w : World) (h : WinAt s t C D w) :
    Calls Tryz.prog 341 #[.pointer (some ⟨C, 0, none⟩), .int .i64 now] w fun e w' => e = .returned (.bool false) ∧ ∃ n, w' = w.drewN n := by
  obtain ⟨c0, c1, c2, c3, c4, c5, c6, c7, c8, c9, c10⟩ := h.cells
  clear c0 c1 c2 c3 c4 c5 c6 c7 c8 h
  cases hr : s.runs with
  | false =>
    rw [hr] at c10
    clear hd
    go_enter Tryz.func341, Tryz.ntmps341
    go_wp2
    go_ret
    exact ⟨rfl, 0, rfl⟩
  | true =>
    rw [hr] at c10
    obtain ⟨E, hE⟩ : ∃ E, (if 4611686018427387904 < now then 4611686018427387904 else now) = E := ⟨_, rfl⟩
    have hd1 : decide (E < s.due) = true := decide_eq_true (by rw [← hE]; rcases hd with hd | hd; · rw [hr] at hd; cases hd
                                                               · split <;> omega)
    clear hd
    go_enter Tryz.func341, Tryz.ntmps341
    go_wp2
    go_ret
    exact ⟨rfl, 0, rfl⟩
end Go.Proofs.YtnhlachoimlhhaaGreatDoor

namespace Go.Proofs.YtnhlachoimlhhaaGreatDoor
open Go.ChangeShapes Go.WideShapes Go.ChangeAt Go.RowKit
set_option linter.unusedVariables false
set_option linter.unusedSimpArgs false

theorem winPipe_any (s : WinS) (t : RttS) (C D : Nat) (w : World) (h : WinAt s t C D w) :
    Calls Tryz.prog 55 #[.pointer (some ⟨C, 0, none⟩)] w fun e w' => e = .returned (.int .i64 s.pipe) ∧ w = w' := by
  have c0 : w.cell? ⟨C, 2, none⟩ = some (.int .i64 s.pipe) := BlkIs.cell h.win 2
  clear h
  go_enter Tryz.func55, Tryz.ntmps55
  go_wp2
  go_ret
  exact ⟨rfl, rfl⟩
/-- How many of n got ones open it at once. -/
def WinS.fast (s : WinS) (n : Int) : Int := max (min n (s.slow - s.cwnd)) 0
/-- n were got. -/
def WinS.grow (s : WinS) (n : Int) : WinS := if s.count + (n - s.fast n) < s.cwnd + s.fast n then { s with cwnd := s.cwnd + s.fast n, count := s.count + (n - s.fast n) } else { s with cwnd := s.cwnd + s.fast n + 1, count := s.count + (n - s.fast n) - (s.cwnd + s.fast n) }
set_option maxHeartbeats 4000000 in
theorem winGrow_any (s : WinS) (hs : s.ok) (n : Int) (h0 : 0 ≤ n) (h1 : n ≤ 1048576) (hk : s.count + (n - s.fast n) ≤ 2 * (s.cwnd + s.fast n)) (t : RttS) (C D : Nat) (w : World) (h : WinAt s t C D w) :
    Calls Tryz.prog 346 #[.pointer (some ⟨C, 0, none⟩), .int .i64 n] w fun e w' => e = .returned (.tuple #[]) ∧ WinAt (s.grow n) t C D w' ∧ Kept [C] w w' := by
  have HH := Lib.hid h
  obtain ⟨c0, c1, c2, c3, c4, c5, c6, c7, c8, c9, c10⟩ := h.cells
  clear c2 c3 c4 c5 c6 c7 c8 c9 c10 h
  obtain ⟨b0, b1⟩ := hs.b0
  obtain ⟨d0, d1⟩ := hs.b1
  obtain ⟨e0, e1⟩ := hs.b3
  obtain ⟨X, hX⟩ : ∃ X, (if s.slow - s.cwnd < n then s.slow - s.cwnd else n) = X := ⟨_, rfl⟩
  obtain ⟨F, hF⟩ : ∃ F, (if X < 0 then 0 else X) = F := ⟨_, rfl⟩
  have hFe : s.fast n = F := by
    rw [← hF, ← hX]
    unfold WinS.fast
    split <;> split <;> omega
  have hF2 : 0 ≤ F ∧ F ≤ n := by
    rw [← hF, ← hX]
    split <;> split <;> omega
  obtain ⟨g0, g1⟩ := hF2
  have HE : Hid (s.grow n = if s.count + (n - F) < s.cwnd + F then { s with cwnd := s.cwnd + F, count := s.count + (n - F) } else { s with cwnd := s.cwnd + F + 1, count := s.count + (n - F) - (s.cwnd + F) }) := Lib.hid (by unfold WinS.grow; rw [hFe])
  rw [hFe] at hk
  clear hFe hs
  rw [HE.out]
  go_enter Tryz.func346, Tryz.ntmps346
  go_wp2
  go_quiet (fail)
  have HV : Hid (WinAt s t C D (w.drewN nq)) := Lib.hid (HH.out.drewN nq)
  have HK0 : Hid (Kept [C] w (w.drewN nq)) := Lib.hid ((Kept.refl _ _).drewN nq)
  clear c0 c1 hX hF
  generalize w.drewN nq = v at *
  have HM : Hid (WinAt { s with cwnd := s.cwnd + F, count := s.count + (n - F) } t C D ((v.setCell ⟨C, 0, none⟩ (.int .i64 (s.cwnd + F))).setCell ⟨C, 3, none⟩ (.int .i64 (s.count + (n - F))))) := Lib.hid (by
    have h1 : WinAt { s with cwnd := s.cwnd + F } t C D _ := HV.out.put (i := 0) rfl
    exact h1.put (i := 3) rfl)
  have HK : Hid (Kept [C] w ((v.setCell ⟨C, 0, none⟩ (.int .i64 (s.cwnd + F))).setCell ⟨C, 3, none⟩ (.int .i64 (s.count + (n - F))))) := Lib.hid ((HK0.out.setCell (.inl (by simp)) _).setCell (.inl (by simp)) _)
  obtain ⟨c0, _, _, c3, _⟩ := HV.out.cells
  have f0 := BlkIs.free HV.out.win 0
  have f3 := BlkIs.free HV.out.win 3
  go_wp2
  clear c0 c3 f0 f3 HV HK0 HH
  generalize (v.setCell ⟨C, 0, none⟩ (.int .i64 (s.cwnd + F))).setCell ⟨C, 3, none⟩ (.int .i64 (s.count + (n - F))) = W at *
  obtain ⟨a0, _, _, a3, _⟩ := HM.out.cells
  by_cases hlt : s.count + (n - F) < s.cwnd + F
  · have hd : decide (s.cwnd + F ≤ s.count + (n - F)) = false := decide_eq_false (by omega)
    refine wp_loop_rounds 1 ?_
    rw [rounds_succ]
    go_wp2
    go_quiet (fail)
    go_wp2
    go_end0
    exact ⟨rfl, HM.out.drewN _, HK.out.drewN _⟩
  · have hd : decide (s.cwnd + F ≤ s.count + (n - F)) = true := decide_eq_true (by omega)
    have hd2 : decide (s.cwnd + F + 1 ≤ s.count + (n - F) - (s.cwnd + F)) = false := decide_eq_false (by omega)
    refine wp_loop_rounds 2 ?_
    rw [rounds_succ]
    go_wp2
    go_quiet (fail)
    have HM2 : Hid (WinAt { s with cwnd := s.cwnd + F, count := s.count + (n - F) } t C D (W.drewN nq)) := Lib.hid (HM.out.drewN nq)
    have HK2 : Hid (Kept [C] w (W.drewN nq)) := Lib.hid (HK.out.drewN nq)
    clear a0 a3 HM HK
    generalize W.drewN nq = V at *
    obtain ⟨a0, _, _, a3, _⟩ := HM2.out.cells
    have z0 := BlkIs.free HM2.out.win 0
    have z3 := BlkIs.free HM2.out.win 3
    go_wp2
    go_region
    all_goals
      have h9 : WinAt { s with cwnd := s.cwnd + F, count := s.count + (n - F) - (s.cwnd + F) } t C D ((V.setCell ⟨C, 3, none⟩ (.int .i64 (s.count + (n - F) - (s.cwnd + F)))).drew) := by
        have h8 : WinAt { s with cwnd := s.cwnd + F, count := s.count + (n - F) - (s.cwnd + F) } t C D _ := HM2.out.put (i := 3) rfl
        exact h8.drewN 1
      have hk9 : Kept [C] w ((V.setCell ⟨C, 3, none⟩ (.int .i64 (s.count + (n - F) - (s.cwnd + F)))).drew) := (HK2.out.setCell (.inl (by simp)) _).drewN 1
      clear a0 a3 z0 z3 HM2 HK2
      generalize (V.setCell ⟨C, 3, none⟩ (.int .i64 (s.count + (n - F) - (s.cwnd + F)))).drew = U at *
      obtain ⟨a0, _, _, a3, _⟩ := h9.cells
      have z0 := BlkIs.free h9.win 0
      have HU : Hid (WinAt { s with cwnd := s.cwnd + F + 1, count := s.count + (n - F) - (s.cwnd + F) } t C D (U.setCell ⟨C, 0, none⟩ (.int .i64 (s.cwnd + F + 1)))) := Lib.hid (h9.put (i := 0) rfl)
      have HKU : Hid (Kept [C] w (U.setCell ⟨C, 0, none⟩ (.int .i64 (s.cwnd + F + 1)))) := Lib.hid (hk9.setCell (.inl (by simp)) _)
      clear h9 hk9
      go_wp2
      clear a0 a3 z0
      generalize U.setCell ⟨C, 0, none⟩ (.int .i64 (s.cwnd + F + 1)) = T at *
      obtain ⟨a0, _, _, a3, _⟩ := HU.out.cells
      rw [rounds_succ]
      go_wp2
      go_quiet (fail)
      go_wp2
      go_end0
      exact ⟨rfl, HU.out.drewN _, HKU.out.drewN _⟩
end Go.Proofs.YtnhlachoimlhhaaGreatDoor

namespace Go.Proofs.YtnhlachoimlhhaaGreatDoor
open Go.ChangeShapes Go.WideShapes Go.ChangeAt Go.RowKit
set_option linter.unusedVariables false
set_option linter.unusedSimpArgs false

def markC (n : Nat) (ok : Bool) : Array Value := #[.int .u64 n, .bool ok]
/-- Two marks, made at once. -/
theorem two_marks (w : World) : ∃ W A, (w.alloc (.cells #[.int .u64 0, .bool false] 150)).alloc (.cells #[.int .u64 0, .bool false] 150) = W ∧ w.heap.size = A ∧ BlkIs (markC 0 false) 150 A W ∧ BlkIs (markC 0 false) 150 (A + 1) W ∧ Below A w W := by
  refine ⟨_, _, rfl, rfl, (BlkIs.new _ _ _).alloc _, ?_, bel_trans (bel_alloc _ _) (bel_alloc _ _)⟩
  have := BlkIs.new (markC 0 false) 150 (w.alloc (.cells #[.int .u64 0, .bool false] 150))
  rw [World.size_alloc] at this
  exact this
set_option maxHeartbeats 2000000 in
theorem furthest_none (b : Nat) (p : Option Addr) (c : Nat) (w : World) (hb : b < w.heap.size) (hc : w.cell? ⟨b, 0, none⟩ = some (.slice p 0 c)) :
    Calls Tryz.prog 348 #[.slice (some ⟨b, 0, none⟩) 1 1] w fun e w' => e = .returned (.agg #[.int .u64 0, .bool false]) ∧ Below w.heap.size w w' := by
  obtain ⟨W, A, hW, hA, k0, k1, hbl⟩ := two_marks w
  have hAe := Lib.hid hA
  have hc2 := (hbl.cell (p := ⟨b, 0, none⟩) (show b < A by omega)).trans hc
  go_enter Tryz.func348, Tryz.ntmps348
  go_upto_region 2 with fail
  have x0 := BlkIs.cell k1 0
  have x1 := BlkIs.cell k1 1
  have y0 := BlkIs.cell k0 0
  have y1 := BlkIs.cell k0 1
  have z0 := BlkIs.free k0 0
  have z1 := BlkIs.free k0 1
  have z2 := BlkIs.free k1 0
  have z3 := BlkIs.free k1 1
  simp only [markC] at x0 x1 y0 y1
  have K0 := Lib.hid k0
  have K1 := Lib.hid k1
  have HBL := Lib.hid hbl
  clear hW hA k0 k1 hbl hc hb
  go_wp2
  refine wp_loop_rounds 2 ?_
  rw [rounds_succ]
  go_wp2
  rw [rounds_succ]
  go_wp2
  have kb := (K0.out.set 0 (.int .u64 0)).set 1 (.bool false)
  refine bodyPost_ret (results_cell_row Tryz.results348 _ _ A 150 (markC 0 false) (0, 0) _ rfl kb Tryz.underlying150 rfl (by kernel_rfl)) rfl ⟨rfl, ?_⟩
  rw [hAe.out]
  exact (HBL.out.setCell (p := ⟨A, 0, none⟩) (Nat.le_refl _) _).setCell (p := ⟨A, 1, none⟩) (Nat.le_refl _) _
set_option maxHeartbeats 4000000 in
theorem furthest_one (b g c x : Nat) (w : World) (hb : b < w.heap.size) (hg : g < w.heap.size) (hc : w.cell? ⟨b, 0, none⟩ = some (.slice (some ⟨g, 0, none⟩) 1 c)) (hx : w.cell? ⟨g, 0, none⟩ = some (.int .u64 x)) :
    Calls Tryz.prog 348 #[.slice (some ⟨b, 0, none⟩) 1 1] w fun e w' => e = .returned (.agg #[.int .u64 x, .bool true]) ∧ Below w.heap.size w w' := by
  obtain ⟨W, A, hW, hA, k0, k1, hbl⟩ := two_marks w
  have hAe := Lib.hid hA
  have hc2 := (hbl.cell (p := ⟨b, 0, none⟩) (show b < A by omega)).trans hc
  have hx2 := (hbl.cell (p := ⟨g, 0, none⟩) (show g < A by omega)).trans hx
  go_enter Tryz.func348, Tryz.ntmps348
  go_upto_region 2 with fail
  have x0 := BlkIs.cell k1 0
  have x1 := BlkIs.cell k1 1
  have y0 := BlkIs.cell k0 0
  have y1 := BlkIs.cell k0 1
  have z0 := BlkIs.free k0 0
  have z1 := BlkIs.free k0 1
  have z2 := BlkIs.free k1 0
  have z3 := BlkIs.free k1 1
  simp only [markC] at x0 x1 y0 y1
  have K0 := Lib.hid k0
  have K1 := Lib.hid k1
  have HBL := Lib.hid hbl
  clear hW hA k0 k1 hbl hc hb hx hg
  go_wp2
  refine wp_loop_rounds 2 ?_
  rw [rounds_succ]
  go_upto_region 9 with fail
  have K0v : Hid (BlkIs (markC 0 false) 150 A ((W.setCell ⟨A + 1, 0, none⟩ (.int .u64 x)).setCell ⟨A + 1, 1, none⟩ (.bool true))) := Lib.hid ((K0.out.far (show A ≠ A + 1 by omega) _).far (show A ≠ A + 1 by omega) _)
  have k1v : BlkIs (markC x true) 150 (A + 1) ((W.setCell ⟨A + 1, 0, none⟩ (.int .u64 x)).setCell ⟨A + 1, 1, none⟩ (.bool true)) := (K1.out.set 0 _).set 1 _
  have HBLv : Hid (Below A w ((W.setCell ⟨A + 1, 0, none⟩ (.int .u64 x)).setCell ⟨A + 1, 1, none⟩ (.bool true))) := Lib.hid ((HBL.out.setCell (p := ⟨A + 1, 0, none⟩) (by simp) _).setCell (p := ⟨A + 1, 1, none⟩) (by simp) _)
  clear x0 x1 y0 y1 z0 z1 z2 z3 K0 K1 HBL
  generalize (W.setCell ⟨A + 1, 0, none⟩ (.int .u64 x)).setCell ⟨A + 1, 1, none⟩ (.bool true) = V at *
  have x0 := BlkIs.cell k1v 0
  have x1 := BlkIs.cell k1v 1
  have y0 := BlkIs.cell K0v.out 0
  have y1 := BlkIs.cell K0v.out 1
  have z0 := BlkIs.free K0v.out 0
  have z1 := BlkIs.free K0v.out 1
  simp only [markC] at x0 x1 y0 y1
  clear k1v
  clear hc2 hx2
  go_wp2
  rw [rounds_succ]
  go_wp2
  have kb := (K0v.out.set 0 (.int .u64 x)).set 1 (.bool true)
  refine bodyPost_ret (results_cell_row Tryz.results348 _ _ A 150 (markC x true) (0, 0) _ rfl kb Tryz.underlying150 rfl (by kernel_rfl)) rfl ⟨rfl, ?_⟩
  rw [hAe.out]
  exact (HBLv.out.setCell (p := ⟨A, 0, none⟩) (Nat.le_refl _) _).setCell (p := ⟨A, 1, none⟩) (Nat.le_refl _) _
set_option maxHeartbeats 4000000 in
theorem furthest_two (b g c x : Nat) (p : Option Addr) (c2 : Nat) (w : World) (hb : b < w.heap.size) (hg : g < w.heap.size) (hc : w.cell? ⟨b, 0, none⟩ = some (.slice (some ⟨g, 0, none⟩) 1 c)) (hd : w.cell? ⟨b, 1, none⟩ = some (.slice p 0 c2)) (hx : w.cell? ⟨g, 0, none⟩ = some (.int .u64 x)) :
    Calls Tryz.prog 348 #[.slice (some ⟨b, 0, none⟩) 2 2] w fun e w' => e = .returned (.agg #[.int .u64 x, .bool true]) ∧ Below w.heap.size w w' := by
  obtain ⟨W, A, hW, hA, k0, k1, hbl⟩ := two_marks w
  have hAe := Lib.hid hA
  have hc2 := (hbl.cell (p := ⟨b, 0, none⟩) (show b < A by omega)).trans hc
  have hd2 := (hbl.cell (p := ⟨b, 1, none⟩) (show b < A by omega)).trans hd
  have hx2 := (hbl.cell (p := ⟨g, 0, none⟩) (show g < A by omega)).trans hx
  have hbA : b < A := by omega
  go_enter Tryz.func348, Tryz.ntmps348
  go_upto_region 2 with fail
  have x0 := BlkIs.cell k1 0
  have x1 := BlkIs.cell k1 1
  have y0 := BlkIs.cell k0 0
  have y1 := BlkIs.cell k0 1
  have z0 := BlkIs.free k0 0
  have z1 := BlkIs.free k0 1
  have z2 := BlkIs.free k1 0
  have z3 := BlkIs.free k1 1
  simp only [markC] at x0 x1 y0 y1
  have K0 := Lib.hid k0
  have K1 := Lib.hid k1
  have HBL := Lib.hid hbl
  clear hW hA k0 k1 hbl hc hb hx hg hd
  go_wp2
  refine wp_loop_rounds 3 ?_
  rw [rounds_succ]
  go_upto_region 9 with fail
  have K0v : Hid (BlkIs (markC 0 false) 150 A ((W.setCell ⟨A + 1, 0, none⟩ (.int .u64 x)).setCell ⟨A + 1, 1, none⟩ (.bool true))) := Lib.hid ((K0.out.far (show A ≠ A + 1 by omega) _).far (show A ≠ A + 1 by omega) _)
  have k1v : BlkIs (markC x true) 150 (A + 1) ((W.setCell ⟨A + 1, 0, none⟩ (.int .u64 x)).setCell ⟨A + 1, 1, none⟩ (.bool true)) := (K1.out.set 0 _).set 1 _
  have HBLv : Hid (Below A w ((W.setCell ⟨A + 1, 0, none⟩ (.int .u64 x)).setCell ⟨A + 1, 1, none⟩ (.bool true))) := Lib.hid ((HBL.out.setCell (p := ⟨A + 1, 0, none⟩) (by simp) _).setCell (p := ⟨A + 1, 1, none⟩) (by simp) _)
  have hd3 : ((W.setCell ⟨A + 1, 0, none⟩ (.int .u64 x)).setCell ⟨A + 1, 1, none⟩ (.bool true)).cell? ⟨b, 1, none⟩ = some (.slice p 0 c2) := by
    rw [World.cell?_setCell_far _ _ _ _ (by simp; omega), World.cell?_setCell_far _ _ _ _ (by simp; omega)]
    exact hd2
  clear x0 x1 y0 y1 z0 z1 z2 z3 K0 K1 HBL
  generalize (W.setCell ⟨A + 1, 0, none⟩ (.int .u64 x)).setCell ⟨A + 1, 1, none⟩ (.bool true) = V at *
  have x0 := BlkIs.cell k1v 0
  have x1 := BlkIs.cell k1v 1
  have y0 := BlkIs.cell K0v.out 0
  have y1 := BlkIs.cell K0v.out 1
  have z0 := BlkIs.free K0v.out 0
  have z1 := BlkIs.free K0v.out 1
  simp only [markC] at x0 x1 y0 y1
  clear k1v
  clear hc2 hx2 hd2
  go_wp2
  rw [rounds_succ]
  go_wp2
  rw [rounds_succ]
  go_wp2
  have kb := (K0v.out.set 0 (.int .u64 x)).set 1 (.bool true)
  refine bodyPost_ret (results_cell_row Tryz.results348 _ _ A 150 (markC x true) (0, 0) _ rfl kb Tryz.underlying150 rfl (by kernel_rfl)) rfl ⟨rfl, ?_⟩
  rw [hAe.out]
  exact (HBLv.out.setCell (p := ⟨A, 0, none⟩) (Nat.le_refl _) _).setCell (p := ⟨A, 1, none⟩) (Nat.le_refl _) _
end Go.Proofs.YtnhlachoimlhhaaGreatDoor

namespace Go.Proofs.YtnhlachoimlhhaaGreatDoor
open Go.ChangeShapes Go.WideShapes Go.ChangeAt Go.RowKit
set_option linter.unusedVariables false
set_option linter.unusedSimpArgs false

set_option maxHeartbeats 1000000 in
theorem isNews_first (s : WinS) (hk : s.hk = false) (v0 v1 v2 v3 v4 : Value) (t : RttS) (C D : Nat) (w : World) (h : WinAt s t C D w) :
    Calls Tryz.prog 347 #[.pointer (some ⟨C, 0, none⟩), .agg #[v0, v1, v2, v3, v4]] w fun e w' => e = .returned (.bool true) ∧ Below w.heap.size w w' := by
  have c8 := h.cells.2.2.2.2.2.2.2.2.1
  rw [hk] at c8
  have c8' := ((bel_alloc w (.cells #[v0, v1, v2, v3, v4] 86)).cell (p := ⟨C, 8, none⟩) h.win.lt).trans c8
  clear h c8
  go_enter Tryz.func347, Tryz.ntmps347
  go_wp2
  go_ret
  exact ⟨rfl, bel_alloc _ _⟩
set_option maxHeartbeats 4000000 in
theorem isNews_lost (s : WinS) (hs : s.ok) (hk : s.hk = true) (v0 v1 v3 v4 : Value) (g c x : Nat) (hx64 : x < 18446744073709551616) (t : RttS) (C D : Nat) (w : World) (h : WinAt s t C D w) (hg : g < w.heap.size) (hx : w.cell? ⟨g, 0, none⟩ = some (.int .u64 x)) :
    Calls Tryz.prog 347 #[.pointer (some ⟨C, 0, none⟩), .agg #[v0, v1, .slice (some ⟨g, 0, none⟩) 1 c, v3, v4]] w fun e w' => e = .returned (.bool (decide (diffI s.hn x < 0))) ∧ Below w.heap.size w w' := by
  have HH := Lib.hid h
  have hCl : C < w.heap.size := h.win.lt
  have hba := bel_alloc w (.cells #[v0, v1, .slice (some ⟨g, 0, none⟩) 1 c, v3, v4] 86)
  have hbx := BlkIs.new #[v0, v1, .slice (some ⟨g, 0, none⟩) 1 c, v3, v4] 86 w
  have hx1 := (hba.cell (p := ⟨g, 0, none⟩) hg).trans hx
  have c8 := h.cells.2.2.2.2.2.2.2.2.1
  rw [hk] at c8
  have c8' := (hba.cell (p := ⟨C, 8, none⟩) hCl).trans c8
  have b2 : (w.alloc (.cells #[v0, v1, .slice (some ⟨g, 0, none⟩) 1 c, v3, v4] 86)).cell? ⟨w.heap.size, 2, none⟩ = some (.slice (some ⟨g, 0, none⟩) 1 c) := BlkIs.cell hbx 2
  have hg1 : g < (w.alloc (.cells #[v0, v1, .slice (some ⟨g, 0, none⟩) 1 c, v3, v4] 86)).heap.size := Nat.lt_of_lt_of_le hg hba.size
  have HL := Lib.hid (fun W => seqLess_any s.hn x hs.b5 hx64 W)
  clear h c8 hbx hg hx
  go_enter Tryz.func347, Tryz.ntmps347
  go_upto_region 3 with fail
  have HW1 : Hid (∀ W, Below (w.alloc (.cells #[v0, v1, .slice (some ⟨g, 0, none⟩) 1 c, v3, v4] 86)).heap.size (w.alloc (.cells #[v0, v1, .slice (some ⟨g, 0, none⟩) 1 c, v3, v4] 86)) W → W.cell? ⟨C, 7, none⟩ = some (.int .u64 s.hn) ∧ Below w.heap.size w W) := Lib.hid (fun W hW => by
    have h1 := HH.out.below (bel_trans hba hW)
    exact ⟨h1.cells.2.2.2.2.2.2.2.1, bel_trans hba hW⟩)
  clear c8' hba
  generalize w.alloc (.cells #[v0, v1, .slice (some ⟨g, 0, none⟩) 1 c, v3, v4] 86) = W1 at *
  obtain ⟨Bx, hBx⟩ : ∃ B, w.heap.size = B := ⟨_, rfl⟩
  rw [hBx] at b2 ⊢
  have HBx := Lib.hid hBx
  clear hBx
  have hnb : (W1.alloc (.cells #[.slice (some ⟨g, 0, none⟩) 1 c] 84)).cell? ⟨W1.heap.size, 0, none⟩ = some (.slice (some ⟨g, 0, none⟩) 1 c) := BlkIs.cell (BlkIs.new #[.slice (some ⟨g, 0, none⟩) 1 c] 84 W1) 0
  have HFU := Lib.hid (furthest_one W1.heap.size g c x (W1.alloc (.cells #[.slice (some ⟨g, 0, none⟩) 1 c] 84)) (by simp) (by simp; omega) hnb (((bel_alloc W1 _).cell (p := ⟨g, 0, none⟩) hg1).trans hx1))
  clear hx1 hg1 hnb
  go_upto_region 4 with (go_at_call 348; (with_reducible refine HFU.out.mono ?_); rintro e w5 ⟨rfl, hb5⟩)
  have hbm := BlkIs.new (markC x true) 150 w5
  have hb6 : Below W1.heap.size W1 (w5.alloc (.cells #[.int .u64 x, .bool true] 150)) := bel_trans (bel_trans (bel_alloc _ _) hb5) (bel_alloc _ _)
  have e0 : (w5.alloc (.cells #[.int .u64 x, .bool true] 150)).cell? ⟨w5.heap.size, 0, none⟩ = some (.int .u64 x) := BlkIs.cell hbm 0
  have e1 : (w5.alloc (.cells #[.int .u64 x, .bool true] 150)).cell? ⟨w5.heap.size, 1, none⟩ = some (.bool true) := BlkIs.cell hbm 1
  obtain ⟨e7, hbw⟩ := HW1.out _ hb6
  clear hbm hb5 hb6 b2
  generalize w5.alloc (.cells #[.int .u64 x, .bool true] 150) = W2 at *
  generalize w5.heap.size = Bm at *
  go_wp2
  go_quiet ((go_at_call 118; exact Calls.quiet_of_same (((HL.out _).mono fun e w' h => ⟨h.1, h.2.symm⟩))))
  go_wp2
  go_ret
  exact ⟨rfl, bel_trans hbw (bel_drewN _ _)⟩
set_option maxHeartbeats 4000000 in
theorem isNews_got (s : WinS) (hs : s.ok) (hk : s.hk = true) (v3 v4 : Value) (pT pL : Option Addr) (cT cL : Nat) (g c x : Nat) (hx64 : x < 18446744073709551616) (t : RttS) (C D : Nat) (w : World) (h : WinAt s t C D w) (hg : g < w.heap.size) (hx : w.cell? ⟨g, 0, none⟩ = some (.int .u64 x)) :
    Calls Tryz.prog 347 #[.pointer (some ⟨C, 0, none⟩), .agg #[.slice (some ⟨g, 0, none⟩) 1 c, .slice pT 0 cT, .slice pL 0 cL, v3, v4]] w fun e w' => e = .returned (.bool (decide (diffI s.hn x < 0))) ∧ Below w.heap.size w w' := by
  have HH := Lib.hid h
  have hCl : C < w.heap.size := h.win.lt
  have hba := bel_alloc w (.cells #[.slice (some ⟨g, 0, none⟩) 1 c, .slice pT 0 cT, .slice pL 0 cL, v3, v4] 86)
  have hbx := BlkIs.new #[.slice (some ⟨g, 0, none⟩) 1 c, .slice pT 0 cT, .slice pL 0 cL, v3, v4] 86 w
  have hx1 := (hba.cell (p := ⟨g, 0, none⟩) hg).trans hx
  have c8 := h.cells.2.2.2.2.2.2.2.2.1
  rw [hk] at c8
  have c8' := (hba.cell (p := ⟨C, 8, none⟩) hCl).trans c8
  have b2 : (w.alloc (.cells #[.slice (some ⟨g, 0, none⟩) 1 c, .slice pT 0 cT, .slice pL 0 cL, v3, v4] 86)).cell? ⟨w.heap.size, 2, none⟩ = some (.slice pL 0 cL) := BlkIs.cell hbx 2
  have b0 : (w.alloc (.cells #[.slice (some ⟨g, 0, none⟩) 1 c, .slice pT 0 cT, .slice pL 0 cL, v3, v4] 86)).cell? ⟨w.heap.size, 0, none⟩ = some (.slice (some ⟨g, 0, none⟩) 1 c) := BlkIs.cell hbx 0
  have b1 : (w.alloc (.cells #[.slice (some ⟨g, 0, none⟩) 1 c, .slice pT 0 cT, .slice pL 0 cL, v3, v4] 86)).cell? ⟨w.heap.size, 1, none⟩ = some (.slice pT 0 cT) := BlkIs.cell hbx 1
  have hg1 : g < (w.alloc (.cells #[.slice (some ⟨g, 0, none⟩) 1 c, .slice pT 0 cT, .slice pL 0 cL, v3, v4] 86)).heap.size := Nat.lt_of_lt_of_le hg hba.size
  have HL := Lib.hid (fun W => seqLess_any s.hn x hs.b5 hx64 W)
  clear h c8 hg hx
  go_enter Tryz.func347, Tryz.ntmps347
  go_upto_region 3 with fail
  have HW1 : Hid (∀ W, Below (w.alloc (.cells #[.slice (some ⟨g, 0, none⟩) 1 c, .slice pT 0 cT, .slice pL 0 cL, v3, v4] 86)).heap.size (w.alloc (.cells #[.slice (some ⟨g, 0, none⟩) 1 c, .slice pT 0 cT, .slice pL 0 cL, v3, v4] 86)) W → W.cell? ⟨C, 7, none⟩ = some (.int .u64 s.hn) ∧ Below w.heap.size w W) := Lib.hid (fun W hW => by
    have h1 := HH.out.below (bel_trans hba hW)
    exact ⟨h1.cells.2.2.2.2.2.2.2.1, bel_trans hba hW⟩)
  clear c8' hba
  generalize w.alloc (.cells #[.slice (some ⟨g, 0, none⟩) 1 c, .slice pT 0 cT, .slice pL 0 cL, v3, v4] 86) = W1 at *
  obtain ⟨Bx, hBx⟩ : ∃ B, w.heap.size = B := ⟨_, rfl⟩
  have hbk : w.heap.size < W1.heap.size := hbx.lt
  rw [hBx] at b0 b1 b2 hbk ⊢
  clear hbx hBx
  have hnb : (W1.alloc (.cells #[.slice pL 0 cL] 84)).cell? ⟨W1.heap.size, 0, none⟩ = some (.slice pL 0 cL) := BlkIs.cell (BlkIs.new #[.slice pL 0 cL] 84 W1) 0
  have HFU := Lib.hid (furthest_none W1.heap.size pL cL (W1.alloc (.cells #[.slice pL 0 cL] 84)) (by simp) hnb)
  clear hnb
  go_upto_region 4 with (go_at_call 348; (with_reducible refine HFU.out.mono ?_); rintro e w5 ⟨rfl, hb5⟩)
  have hbm : BlkIs #[.int .u64 0, .bool false] 150 w5.heap.size (w5.alloc (.cells #[.int .u64 0, .bool false] 150)) := BlkIs.new _ _ _
  have hb6 : Below W1.heap.size W1 (w5.alloc (.cells #[.int .u64 0, .bool false] 150)) := bel_trans (bel_trans (bel_alloc _ _) hb5) (bel_alloc _ _)
  have hm6 : W1.heap.size ≤ w5.heap.size := (bel_trans (bel_alloc W1 _) hb5).size
  have HB6 := Lib.hid hb6
  have a0 := (hb6.cell (p := ⟨Bx, 0, none⟩) hbk).trans b0
  have a1 := (hb6.cell (p := ⟨Bx, 1, none⟩) hbk).trans b1
  have a9 := (hb6.cell (p := ⟨g, 0, none⟩) hg1).trans hx1
  have hg6 : g < (w5.alloc (.cells #[.int .u64 0, .bool false] 150)).heap.size := Nat.lt_of_lt_of_le hg1 hb6.size
  clear hb5 hb6 b0 b1 b2 hx1 HFU
  generalize w5.alloc (.cells #[.int .u64 0, .bool false] 150) = W2 at *
  generalize w5.heap.size = Bm at *
  have e0 : W2.cell? ⟨Bm, 0, none⟩ = some (.int .u64 0) := BlkIs.cell hbm 0
  have e1 : W2.cell? ⟨Bm, 1, none⟩ = some (.bool false) := BlkIs.cell hbm 1
  have hB2 := hbm.lt
  have hn0 : (W2.alloc (.cells #[.slice (some ⟨g, 0, none⟩) 1 c, .slice pT 0 cT] 84)).cell? ⟨W2.heap.size, 0, none⟩ = some (.slice (some ⟨g, 0, none⟩) 1 c) := BlkIs.cell (BlkIs.new #[.slice (some ⟨g, 0, none⟩) 1 c, .slice pT 0 cT] 84 W2) 0
  have hn1 : (W2.alloc (.cells #[.slice (some ⟨g, 0, none⟩) 1 c, .slice pT 0 cT] 84)).cell? ⟨W2.heap.size, 1, none⟩ = some (.slice pT 0 cT) := BlkIs.cell (BlkIs.new #[.slice (some ⟨g, 0, none⟩) 1 c, .slice pT 0 cT] 84 W2) 1
  have HFU := Lib.hid (furthest_two W2.heap.size g c x pT cT (W2.alloc (.cells #[.slice (some ⟨g, 0, none⟩) 1 c, .slice pT 0 cT] 84)) (by simp) (by simp; omega) hn0 hn1 (((bel_alloc W2 _).cell (p := ⟨g, 0, none⟩) hg6).trans a9))
  have HBM := Lib.hid hbm
  clear hn0 hn1 hbm a9 hg6
  go_upto_region 6 with (go_at_call 348; (with_reducible refine HFU.out.mono ?_); rintro e w7 ⟨rfl, hb7⟩; have hbl7 := bel_trans (bel_alloc W2 (.cells #[.slice (some ⟨g, 0, none⟩) 1 c, .slice pT 0 cT] 84)) hb7; have k7 := BlkIs.below HBM.out hbl7; have e0' : w7.cell? ⟨Bm, 0, none⟩ = some (.int .u64 0) := BlkIs.cell k7 0; have e1' : w7.cell? ⟨Bm, 1, none⟩ = some (.bool false) := BlkIs.cell k7 1; have z0' := BlkIs.free k7 0; have z1' := BlkIs.free k7 1)
  have k8 := (k7.set 0 (.int .u64 x)).set 1 (.bool true)
  have hb8 : Below W1.heap.size W1 ((w7.setCell ⟨Bm, 0, none⟩ (.int .u64 x)).setCell ⟨Bm, 1, none⟩ (.bool true)) := ((bel_trans HB6.out hbl7).setCell (p := ⟨Bm, 0, none⟩) hm6 _).setCell (p := ⟨Bm, 1, none⟩) hm6 _
  obtain ⟨e7, hbw⟩ := HW1.out _ hb8
  clear e0 e1 e0' e1' z0' z1' a0 a1 k7 hbl7 hb7 hb8
  generalize (w7.setCell ⟨Bm, 0, none⟩ (.int .u64 x)).setCell ⟨Bm, 1, none⟩ (.bool true) = W3 at *
  have e0 : W3.cell? ⟨Bm, 0, none⟩ = some (.int .u64 x) := BlkIs.cell k8 0
  have e1 : W3.cell? ⟨Bm, 1, none⟩ = some (.bool true) := BlkIs.cell k8 1
  clear k8
  go_wp2
  go_quiet ((go_at_call 118; exact Calls.quiet_of_same (((HL.out _).mono fun e w' h => ⟨h.1, h.2.symm⟩))))
  go_wp2
  go_ret
  exact ⟨rfl, bel_trans hbw (bel_drewN _ _)⟩
end Go.Proofs.YtnhlachoimlhhaaGreatDoor

namespace Go.Proofs.YtnhlachoimlhhaaGreatDoor
open Go.ChangeShapes Go.WideShapes Go.ChangeAt Go.RowKit
set_option linter.unusedVariables false
set_option linter.unusedSimpArgs false

/-- So many of them are on their way no more. -/
def WinS.less (s : WinS) (G L : Nat) : WinS := { s with pipe := max (s.pipe - G - L) 0 }
/-- What went wrong is news, or not. -/
def WinS.wrong (s : WinS) (bad : Bool) : WinS := if bad = true then { s.halve with cwnd := s.halve.slow } else s
/-- The clock runs anew, or stops. -/
def WinS.clock (s : WinS) (due : Int) : WinS := if 0 < s.pipe then s.run due else s.stop
def RttS.heard (t : RttS) (r : Int) : RttS := if 0 ≤ r then t.sample r else t
set_option maxHeartbeats 16000000 in
set_option maxRecDepth 100000 in
theorem winHear_any (s s2 : WinS) (hs : s.ok) (t t2 : RttS) (ht : t.ok) (G L : Nat) (hG : G ≤ 1000) (hL : L ≤ 1000) (hs1 : (s.less G L).ok) (hk : (s.less G L).count + ((G : Int) - (s.less G L).fast G) ≤ 2 * ((s.less G L).cwnd + (s.less G L).fast G)) (he : (s.less G L).grow G = s2) (hs2 : s2.ok)
    (pG pL : Option Addr) (cG cL : Nat) (vT : Value) (m r now : Int) (hn : -9223372036854775808 ≤ now ∧ now ≤ 9223372036854775807) (ht2 : t.heard r = t2) (bad : Bool) (C D : Nat) (w : World) (h : WinAt s t C D w)
    (hbad : (bad = false ∧ L = 0 ∧ m ≤ 0) ∨ ((0 < L ∨ 0 < m) ∧ ∀ W, WinAt s2 t2 C D W → Kept [C, D] w W → Calls Tryz.prog 347 #[.pointer (some ⟨C, 0, none⟩), .agg #[.slice pG G cG, vT, .slice pL L cL, .int .i64 m, .int .i64 r]] W fun e w' => e = .returned (.bool bad) ∧ Below W.heap.size W w')) :
    Calls Tryz.prog 342 #[.pointer (some ⟨C, 0, none⟩), .agg #[.slice pG G cG, vT, .slice pL L cL, .int .i64 m, .int .i64 r], .int .i64 now] w fun e w' => e = .returned (.tuple #[]) ∧ WinAt ((s2.wrong bad).clock (M.winDue now t2.rto)) t2 C D w' ∧ Kept [C, D] w w' := by
  have hC : C < w.heap.size := h.win.lt
  have hD : D < w.heap.size := BlkIs.lt h.rtt
  have hne := h.ne
  have hb := BlkIs.new #[.slice pG G cG, vT, .slice pL L cL, .int .i64 m, .int .i64 r] 86 w
  have hwa : WinAt s t C D (w.alloc (.cells #[.slice pG G cG, vT, .slice pL L cL, .int .i64 m, .int .i64 r] 86)) := h.below (bel_alloc w _)
  have HK1 : Hid (Kept [C, D] w (w.alloc (.cells #[.slice pG G cG, vT, .slice pL L cL, .int .i64 m, .int .i64 r] 86))) := Lib.hid ((Kept.refl _ w).alloc _)
  have htok : t2.ok := by
    rw [← ht2]
    unfold RttS.heard
    split
    · exact ht.sample r
    · exact ht
  have HGR : Hid (∀ W, WinAt (s.less G L) t2 C D W → Calls Tryz.prog 346 #[.pointer (some ⟨C, 0, none⟩), .int .i64 (G : Int)] W fun e w' => e = .returned (.tuple #[]) ∧ WinAt s2 t2 C D w' ∧ Kept [C] W w') := Lib.hid (fun W hW => by
    have h1 := winGrow_any _ hs1 (G : Int) (by omega) (by omega) hk t2 C D W hW
    rw [he] at h1
    exact h1)
  have HHV : Hid (∀ W, WinAt s2 t2 C D W → Calls Tryz.prog 343 #[.pointer (some ⟨C, 0, none⟩)] W fun e w' => e = .returned (.tuple #[]) ∧ WinAt s2.halve t2 C D w' ∧ Kept [C] W w') := Lib.hid (fun W hW => winHalve_any s2 hs2 t2 C D W hW)
  have HRU : Hid (∀ s3 W, WinAt s3 t2 C D W → Calls Tryz.prog 173 #[.pointer (some ⟨C, 0, none⟩), .int .i64 now] W fun e w' => e = .returned (.tuple #[]) ∧ WinAt (s3.run (M.winDue now t2.rto)) t2 C D w' ∧ Kept [C] W w') := Lib.hid (fun s3 W hW => winRun_any s3 t2 htok now hn C D W hW)
  have HST : Hid (∀ s3 W, WinAt s3 t2 C D W → Calls Tryz.prog 345 #[.pointer (some ⟨C, 0, none⟩)] W fun e w' => e = .returned (.tuple #[]) ∧ WinAt s3.stop t2 C D w' ∧ Kept [C] W w') := Lib.hid (fun s3 W hW => winStop_any s3 t2 C D W hW)
  have HSA : Hid (∀ W, WinAt (s.less G L) t C D W → Calls Tryz.prog 136 #[.pointer (some ⟨D, 0, none⟩), .int .i64 r] W fun e w' => e = .returned (.tuple #[]) ∧ (RttBlk (t.sample r) D w' ∧ Kept [D] W w')) := Lib.hid (fun W hW => rttSample_any t ht r D W hW.rtt)
  generalize M.winDue now t2.rto = due at *
  obtain ⟨p0, p1⟩ := hs.b2
  obtain ⟨P, hP⟩ : ∃ P, (if s.pipe - (G : Int) - (L : Int) < 0 then 0 else s.pipe - (G : Int) - (L : Int)) = P := ⟨_, rfl⟩
  have hle : Hid (s.less G L = { s with pipe := P }) := Lib.hid (by
    unfold WinS.less
    rw [← hP]
    congr 1
    split <;> omega)
  obtain ⟨Bx, hBx⟩ : ∃ B, w.heap.size = B := ⟨_, rfl⟩
  rw [hBx] at hb hC hD
  have HNB : Hid (Bx ∉ [C, D]) := Lib.hid (by simp; omega)
  clear h hs hs1 hk he hs2 ht htok
  go_enter Tryz.func342, Tryz.ntmps342
  go_upto_region 2 with fail
  generalize w.alloc (.cells #[.slice pG G cG, vT, .slice pL L cL, .int .i64 m, .int .i64 r] 86) = w1 at *
  have HBX := Lib.hid hb
  have c2 := hwa.cells.2.2.1
  have f2 := BlkIs.free hwa.win 2
  have b0 : w1.cell? ⟨Bx, 0, none⟩ = some (.slice pG G cG) := BlkIs.cell hb 0
  have b2 : w1.cell? ⟨Bx, 2, none⟩ = some (.slice pL L cL) := BlkIs.cell hb 2
  have HWA := Lib.hid hwa
  clear hb hwa hBx
  go_region
  have hv : WinAt (s.less G L) t C D (w1.setCell ⟨C, 2, none⟩ (.int .i64 P)).drew := by
    rw [hle.out]
    have h8 : WinAt { s with pipe := P } t C D _ := HWA.out.put (i := 2) rfl
    exact h8.drewN 1
  have kv : Kept [C, D] w1 (w1.setCell ⟨C, 2, none⟩ (.int .i64 P)).drew := ((Kept.refl _ _).setCell (.inl (by simp)) _).drewN 1
  clear c2 f2 b0 b2 HWA hP hle
  generalize (w1.setCell ⟨C, 2, none⟩ (.int .i64 P)).drew = wv at *
  have b4 : wv.cell? ⟨Bx, 4, none⟩ = some (.int .i64 r) := BlkIs.cell (BlkIs.kept HBX.out kv HNB.out) 4
  by_cases hr : 0 ≤ r
  · have hr1 : decide (0 ≤ r) = true := decide_eq_true hr
    have hts : t.sample r = t2 := by rw [← ht2]; unfold RttS.heard; rw [if_pos hr]
    have c4 := hv.cells.2.2.2.2.1
    have hvd : WinAt (s.less G L) t C D wv.drew := hv.drewN 1
    have kvd : Kept [C, D] w1 wv.drew := kv.drewN 1
    go_upto_region 4 with fail
    go_region_with (first
      | (go_at_call 136; refine (HSA.out _ hvd).mono ?_; rintro e w3 ⟨rfl, hb3, hk3⟩; have hv3 : WinAt (s.less G L) t2 C D w3 := ⟨hvd.win.kept hk3 (by simp; exact hne), by rw [← hts]; exact hb3, hne⟩; have kv3 : Kept [C, D] w1 w3 := kvd.trans' (hk3.more (by simp)); have b0 : w3.cell? ⟨Bx, 0, none⟩ = some (.slice pG G cG) := BlkIs.cell (BlkIs.kept HBX.out kv3 HNB.out) 0))
    all_goals
      go_upto_region 6 with (go_at_call 346; (with_reducible refine (HGR.out _ hv3).mono ?_); rintro e w4 ⟨rfl, h4, k4'⟩)
      have k4 : Kept [C, D] w1 w4 := kv3.trans' (k4'.more (by simp))
      clear b4 c4 hv kv hvd kvd hb3 hk3 hv3 kv3 b0
      have hbx4 := BlkIs.kept HBX.out k4 HNB.out
      clear k4'
      have b0 : w4.cell? ⟨Bx, 0, none⟩ = some (.slice pG G cG) := BlkIs.cell hbx4 0
      have b1 : w4.cell? ⟨Bx, 1, none⟩ = some vT := BlkIs.cell hbx4 1
      have b2 : w4.cell? ⟨Bx, 2, none⟩ = some (.slice pL L cL) := BlkIs.cell hbx4 2
      have b3 : w4.cell? ⟨Bx, 3, none⟩ = some (.int .i64 m) := BlkIs.cell hbx4 3
      have b4 : w4.cell? ⟨Bx, 4, none⟩ = some (.int .i64 r) := BlkIs.cell hbx4 4
      clear hbx4
      rcases hbad with ⟨rfl, rfl, hm⟩ | ⟨hlm, HN⟩
      · have hm1 : decide (0 < m) = false := decide_eq_false (by omega)
        have h6 := h4
        have k6 := k4
        have c2 := h6.cells.2.2.1
        have HSW : Hid (s2.wrong false = s2) := Lib.hid rfl
        go_upto_region 9 with fail
        clear b0 b1 b2 b3 b4 h4 k4
        by_cases hp : 0 < (s2).pipe
        · have hp1 : decide (0 < (s2).pipe) = true := decide_eq_true hp
          have HCL : Hid ((s2).clock due = (s2).run due) := Lib.hid (by unfold WinS.clock; rw [if_pos hp])
          clear hp
          go_wp2_with (go_at_call 173; (with_reducible refine (HRU.out _ _ h6).mono ?_); rintro e w9 ⟨rfl, h9, k9⟩)
          go_end0
          exact ⟨rfl, by rw [HSW.out, HCL.out]; exact h9, HK1.out.trans' (k6.trans' (k9.more (by simp)))⟩
        · have hp1 : decide (0 < (s2).pipe) = false := decide_eq_false hp
          have HCL : Hid ((s2).clock due = (s2).stop) := Lib.hid (by unfold WinS.clock; rw [if_neg hp])
          clear hp
          go_wp2_with (go_at_call 345; (with_reducible refine (HST.out _ _ h6).mono ?_); rintro e w9 ⟨rfl, h9, k9⟩)
          go_end0
          exact ⟨rfl, by rw [HSW.out, HCL.out]; exact h9, HK1.out.trans' (k6.trans' (k9.more (by simp)))⟩
      · have HN2 := Lib.hid (HN w4 h4 (HK1.out.trans' k4))
        by_cases hL0 : 0 < L
        · have hL1 : decide ((0 : Int) < (L : Int)) = true := decide_eq_true (by omega)
          cases bad with
          | false =>
            go_upto_region 9 with (go_at_call 347; (with_reducible refine HN2.out.mono ?_); rintro e w5 ⟨rfl, hb5⟩)
            have h6 : WinAt s2 t2 C D w5 := h4.below hb5
            have k6 : Kept [C, D] w1 w5 := k4.trans' (Kept.of_below _ hb5)
            have c2 := h6.cells.2.2.1
            have HSW : Hid (s2.wrong false = s2) := Lib.hid rfl
            clear b0 b1 b2 b3 b4 h4 k4 hb5
            by_cases hp : 0 < (s2).pipe
            · have hp1 : decide (0 < (s2).pipe) = true := decide_eq_true hp
              have HCL : Hid ((s2).clock due = (s2).run due) := Lib.hid (by unfold WinS.clock; rw [if_pos hp])
              clear hp
              go_wp2_with (go_at_call 173; (with_reducible refine (HRU.out _ _ h6).mono ?_); rintro e w9 ⟨rfl, h9, k9⟩)
              go_end0
              exact ⟨rfl, by rw [HSW.out, HCL.out]; exact h9, HK1.out.trans' (k6.trans' (k9.more (by simp)))⟩
            · have hp1 : decide (0 < (s2).pipe) = false := decide_eq_false hp
              have HCL : Hid ((s2).clock due = (s2).stop) := Lib.hid (by unfold WinS.clock; rw [if_neg hp])
              clear hp
              go_wp2_with (go_at_call 345; (with_reducible refine (HST.out _ _ h6).mono ?_); rintro e w9 ⟨rfl, h9, k9⟩)
              go_end0
              exact ⟨rfl, by rw [HSW.out, HCL.out]; exact h9, HK1.out.trans' (k6.trans' (k9.more (by simp)))⟩
          | true =>
            go_upto_region 8 with (first
              | (go_at_call 347; (with_reducible refine HN2.out.mono ?_); rintro e w5 ⟨rfl, hb5⟩; have h5 := h4.below hb5)
              | (go_at_call 343; (with_reducible refine (HHV.out _ h5).mono ?_); rintro e w6 ⟨rfl, h7, k7⟩))
            have a0 := BlkIs.free h7.win 0
            have a1 := h7.cells.2.1
            have a2 := h7.cells.1
            have h6 : WinAt { s2.halve with cwnd := s2.halve.slow } t2 C D (w6.setCell ⟨C, 0, none⟩ (.int .i64 s2.halve.slow)) := h7.put (i := 0) rfl
            have k6 : Kept [C, D] w1 (w6.setCell ⟨C, 0, none⟩ (.int .i64 s2.halve.slow)) := ((k4.trans' (Kept.of_below _ hb5)).trans' (k7.more (by simp))).setCell (.inl (by simp)) _
            go_upto_region 9 with fail
            clear b0 b1 b2 b3 b4 h4 k4 hb5 h5 h7 k7 a0 a1 a2
            generalize w6.setCell ⟨C, 0, none⟩ (.int .i64 s2.halve.slow) = wf at *
            have c2 := h6.cells.2.2.1
            have HSW : Hid (s2.wrong true = { s2.halve with cwnd := s2.halve.slow }) := Lib.hid rfl
            by_cases hp : 0 < ({ s2.halve with cwnd := s2.halve.slow } : WinS).pipe
            · have hp1 : decide (0 < ({ s2.halve with cwnd := s2.halve.slow } : WinS).pipe) = true := decide_eq_true hp
              have HCL : Hid (({ s2.halve with cwnd := s2.halve.slow } : WinS).clock due = ({ s2.halve with cwnd := s2.halve.slow } : WinS).run due) := Lib.hid (by unfold WinS.clock; rw [if_pos hp])
              clear hp
              go_wp2_with (go_at_call 173; (with_reducible refine (HRU.out _ _ h6).mono ?_); rintro e w9 ⟨rfl, h9, k9⟩)
              go_end0
              exact ⟨rfl, by rw [HSW.out, HCL.out]; exact h9, HK1.out.trans' (k6.trans' (k9.more (by simp)))⟩
            · have hp1 : decide (0 < ({ s2.halve with cwnd := s2.halve.slow } : WinS).pipe) = false := decide_eq_false hp
              have HCL : Hid (({ s2.halve with cwnd := s2.halve.slow } : WinS).clock due = ({ s2.halve with cwnd := s2.halve.slow } : WinS).stop) := Lib.hid (by unfold WinS.clock; rw [if_neg hp])
              clear hp
              go_wp2_with (go_at_call 345; (with_reducible refine (HST.out _ _ h6).mono ?_); rintro e w9 ⟨rfl, h9, k9⟩)
              go_end0
              exact ⟨rfl, by rw [HSW.out, HCL.out]; exact h9, HK1.out.trans' (k6.trans' (k9.more (by simp)))⟩
        · have hL1 : decide ((0 : Int) < (L : Int)) = false := decide_eq_false (by omega)
          have hm1 : decide (0 < m) = true := decide_eq_true (by omega)
          cases bad with
          | false =>
            go_upto_region 9 with (go_at_call 347; (with_reducible refine HN2.out.mono ?_); rintro e w5 ⟨rfl, hb5⟩)
            have h6 : WinAt s2 t2 C D w5 := h4.below hb5
            have k6 : Kept [C, D] w1 w5 := k4.trans' (Kept.of_below _ hb5)
            have c2 := h6.cells.2.2.1
            have HSW : Hid (s2.wrong false = s2) := Lib.hid rfl
            clear b0 b1 b2 b3 b4 h4 k4 hb5
            by_cases hp : 0 < (s2).pipe
            · have hp1 : decide (0 < (s2).pipe) = true := decide_eq_true hp
              have HCL : Hid ((s2).clock due = (s2).run due) := Lib.hid (by unfold WinS.clock; rw [if_pos hp])
              clear hp
              go_wp2_with (go_at_call 173; (with_reducible refine (HRU.out _ _ h6).mono ?_); rintro e w9 ⟨rfl, h9, k9⟩)
              go_end0
              exact ⟨rfl, by rw [HSW.out, HCL.out]; exact h9, HK1.out.trans' (k6.trans' (k9.more (by simp)))⟩
            · have hp1 : decide (0 < (s2).pipe) = false := decide_eq_false hp
              have HCL : Hid ((s2).clock due = (s2).stop) := Lib.hid (by unfold WinS.clock; rw [if_neg hp])
              clear hp
              go_wp2_with (go_at_call 345; (with_reducible refine (HST.out _ _ h6).mono ?_); rintro e w9 ⟨rfl, h9, k9⟩)
              go_end0
              exact ⟨rfl, by rw [HSW.out, HCL.out]; exact h9, HK1.out.trans' (k6.trans' (k9.more (by simp)))⟩
          | true =>
            go_upto_region 8 with (first
              | (go_at_call 347; (with_reducible refine HN2.out.mono ?_); rintro e w5 ⟨rfl, hb5⟩; have h5 := h4.below hb5)
              | (go_at_call 343; (with_reducible refine (HHV.out _ h5).mono ?_); rintro e w6 ⟨rfl, h7, k7⟩))
            have a0 := BlkIs.free h7.win 0
            have a1 := h7.cells.2.1
            have a2 := h7.cells.1
            have h6 : WinAt { s2.halve with cwnd := s2.halve.slow } t2 C D (w6.setCell ⟨C, 0, none⟩ (.int .i64 s2.halve.slow)) := h7.put (i := 0) rfl
            have k6 : Kept [C, D] w1 (w6.setCell ⟨C, 0, none⟩ (.int .i64 s2.halve.slow)) := ((k4.trans' (Kept.of_below _ hb5)).trans' (k7.more (by simp))).setCell (.inl (by simp)) _
            go_upto_region 9 with fail
            clear b0 b1 b2 b3 b4 h4 k4 hb5 h5 h7 k7 a0 a1 a2
            generalize w6.setCell ⟨C, 0, none⟩ (.int .i64 s2.halve.slow) = wf at *
            have c2 := h6.cells.2.2.1
            have HSW : Hid (s2.wrong true = { s2.halve with cwnd := s2.halve.slow }) := Lib.hid rfl
            by_cases hp : 0 < ({ s2.halve with cwnd := s2.halve.slow } : WinS).pipe
            · have hp1 : decide (0 < ({ s2.halve with cwnd := s2.halve.slow } : WinS).pipe) = true := decide_eq_true hp
              have HCL : Hid (({ s2.halve with cwnd := s2.halve.slow } : WinS).clock due = ({ s2.halve with cwnd := s2.halve.slow } : WinS).run due) := Lib.hid (by unfold WinS.clock; rw [if_pos hp])
              clear hp
              go_wp2_with (go_at_call 173; (with_reducible refine (HRU.out _ _ h6).mono ?_); rintro e w9 ⟨rfl, h9, k9⟩)
              go_end0
              exact ⟨rfl, by rw [HSW.out, HCL.out]; exact h9, HK1.out.trans' (k6.trans' (k9.more (by simp)))⟩
            · have hp1 : decide (0 < ({ s2.halve with cwnd := s2.halve.slow } : WinS).pipe) = false := decide_eq_false hp
              have HCL : Hid (({ s2.halve with cwnd := s2.halve.slow } : WinS).clock due = ({ s2.halve with cwnd := s2.halve.slow } : WinS).stop) := Lib.hid (by unfold WinS.clock; rw [if_neg hp])
              clear hp
              go_wp2_with (go_at_call 345; (with_reducible refine (HST.out _ _ h6).mono ?_); rintro e w9 ⟨rfl, h9, k9⟩)
              go_end0
              exact ⟨rfl, by rw [HSW.out, HCL.out]; exact h9, HK1.out.trans' (k6.trans' (k9.more (by simp)))⟩
  · have hr1 : decide (0 ≤ r) = false := decide_eq_false hr
    have hts : t2 = t := by rw [← ht2]; unfold RttS.heard; rw [if_neg hr]
    clear ht2
    subst hts
    have b0 : wv.cell? ⟨Bx, 0, none⟩ = some (.slice pG G cG) := BlkIs.cell (BlkIs.kept HBX.out kv HNB.out) 0
    go_upto_region 6 with (go_at_call 346; (with_reducible refine (HGR.out _ hv).mono ?_); rintro e w4 ⟨rfl, h4, k4'⟩)
    have k4 : Kept [C, D] w1 w4 := kv.trans' (k4'.more (by simp))
    clear b4 hv kv b0
    have hbx4 := BlkIs.kept HBX.out k4 HNB.out
    clear k4'
    have b0 : w4.cell? ⟨Bx, 0, none⟩ = some (.slice pG G cG) := BlkIs.cell hbx4 0
    have b1 : w4.cell? ⟨Bx, 1, none⟩ = some vT := BlkIs.cell hbx4 1
    have b2 : w4.cell? ⟨Bx, 2, none⟩ = some (.slice pL L cL) := BlkIs.cell hbx4 2
    have b3 : w4.cell? ⟨Bx, 3, none⟩ = some (.int .i64 m) := BlkIs.cell hbx4 3
    have b4 : w4.cell? ⟨Bx, 4, none⟩ = some (.int .i64 r) := BlkIs.cell hbx4 4
    clear hbx4
    rcases hbad with ⟨rfl, rfl, hm⟩ | ⟨hlm, HN⟩
    · have hm1 : decide (0 < m) = false := decide_eq_false (by omega)
      have h6 := h4
      have k6 := k4
      have c2 := h6.cells.2.2.1
      have HSW : Hid (s2.wrong false = s2) := Lib.hid rfl
      go_upto_region 9 with fail
      clear b0 b1 b2 b3 b4 h4 k4
      by_cases hp : 0 < (s2).pipe
      · have hp1 : decide (0 < (s2).pipe) = true := decide_eq_true hp
        have HCL : Hid ((s2).clock due = (s2).run due) := Lib.hid (by unfold WinS.clock; rw [if_pos hp])
        clear hp
        go_wp2_with (go_at_call 173; (with_reducible refine (HRU.out _ _ h6).mono ?_); rintro e w9 ⟨rfl, h9, k9⟩)
        go_end0
        exact ⟨rfl, by rw [HSW.out, HCL.out]; exact h9, HK1.out.trans' (k6.trans' (k9.more (by simp)))⟩
      · have hp1 : decide (0 < (s2).pipe) = false := decide_eq_false hp
        have HCL : Hid ((s2).clock due = (s2).stop) := Lib.hid (by unfold WinS.clock; rw [if_neg hp])
        clear hp
        go_wp2_with (go_at_call 345; (with_reducible refine (HST.out _ _ h6).mono ?_); rintro e w9 ⟨rfl, h9, k9⟩)
        go_end0
        exact ⟨rfl, by rw [HSW.out, HCL.out]; exact h9, HK1.out.trans' (k6.trans' (k9.more (by simp)))⟩
    · have HN2 := Lib.hid (HN w4 h4 (HK1.out.trans' k4))
      by_cases hL0 : 0 < L
      · have hL1 : decide ((0 : Int) < (L : Int)) = true := decide_eq_true (by omega)
        cases bad with
        | false =>
          go_upto_region 9 with (go_at_call 347; (with_reducible refine HN2.out.mono ?_); rintro e w5 ⟨rfl, hb5⟩)
          have h6 : WinAt s2 t2 C D w5 := h4.below hb5
          have k6 : Kept [C, D] w1 w5 := k4.trans' (Kept.of_below _ hb5)
          have c2 := h6.cells.2.2.1
          have HSW : Hid (s2.wrong false = s2) := Lib.hid rfl
          clear b0 b1 b2 b3 b4 h4 k4 hb5
          by_cases hp : 0 < (s2).pipe
          · have hp1 : decide (0 < (s2).pipe) = true := decide_eq_true hp
            have HCL : Hid ((s2).clock due = (s2).run due) := Lib.hid (by unfold WinS.clock; rw [if_pos hp])
            clear hp
            go_wp2_with (go_at_call 173; (with_reducible refine (HRU.out _ _ h6).mono ?_); rintro e w9 ⟨rfl, h9, k9⟩)
            go_end0
            exact ⟨rfl, by rw [HSW.out, HCL.out]; exact h9, HK1.out.trans' (k6.trans' (k9.more (by simp)))⟩
          · have hp1 : decide (0 < (s2).pipe) = false := decide_eq_false hp
            have HCL : Hid ((s2).clock due = (s2).stop) := Lib.hid (by unfold WinS.clock; rw [if_neg hp])
            clear hp
            go_wp2_with (go_at_call 345; (with_reducible refine (HST.out _ _ h6).mono ?_); rintro e w9 ⟨rfl, h9, k9⟩)
            go_end0
            exact ⟨rfl, by rw [HSW.out, HCL.out]; exact h9, HK1.out.trans' (k6.trans' (k9.more (by simp)))⟩
        | true =>
          go_upto_region 8 with (first
            | (go_at_call 347; (with_reducible refine HN2.out.mono ?_); rintro e w5 ⟨rfl, hb5⟩; have h5 := h4.below hb5)
            | (go_at_call 343; (with_reducible refine (HHV.out _ h5).mono ?_); rintro e w6 ⟨rfl, h7, k7⟩))
          have a0 := BlkIs.free h7.win 0
          have a1 := h7.cells.2.1
          have a2 := h7.cells.1
          have h6 : WinAt { s2.halve with cwnd := s2.halve.slow } t2 C D (w6.setCell ⟨C, 0, none⟩ (.int .i64 s2.halve.slow)) := h7.put (i := 0) rfl
          have k6 : Kept [C, D] w1 (w6.setCell ⟨C, 0, none⟩ (.int .i64 s2.halve.slow)) := ((k4.trans' (Kept.of_below _ hb5)).trans' (k7.more (by simp))).setCell (.inl (by simp)) _
          go_upto_region 9 with fail
          clear b0 b1 b2 b3 b4 h4 k4 hb5 h5 h7 k7 a0 a1 a2
          generalize w6.setCell ⟨C, 0, none⟩ (.int .i64 s2.halve.slow) = wf at *
          have c2 := h6.cells.2.2.1
          have HSW : Hid (s2.wrong true = { s2.halve with cwnd := s2.halve.slow }) := Lib.hid rfl
          by_cases hp : 0 < ({ s2.halve with cwnd := s2.halve.slow } : WinS).pipe
          · have hp1 : decide (0 < ({ s2.halve with cwnd := s2.halve.slow } : WinS).pipe) = true := decide_eq_true hp
            have HCL : Hid (({ s2.halve with cwnd := s2.halve.slow } : WinS).clock due = ({ s2.halve with cwnd := s2.halve.slow } : WinS).run due) := Lib.hid (by unfold WinS.clock; rw [if_pos hp])
            clear hp
            go_wp2_with (go_at_call 173; (with_reducible refine (HRU.out _ _ h6).mono ?_); rintro e w9 ⟨rfl, h9, k9⟩)
            go_end0
            exact ⟨rfl, by rw [HSW.out, HCL.out]; exact h9, HK1.out.trans' (k6.trans' (k9.more (by simp)))⟩
          · have hp1 : decide (0 < ({ s2.halve with cwnd := s2.halve.slow } : WinS).pipe) = false := decide_eq_false hp
            have HCL : Hid (({ s2.halve with cwnd := s2.halve.slow } : WinS).clock due = ({ s2.halve with cwnd := s2.halve.slow } : WinS).stop) := Lib.hid (by unfold WinS.clock; rw [if_neg hp])
            clear hp
            go_wp2_with (go_at_call 345; (with_reducible refine (HST.out _ _ h6).mono ?_); rintro e w9 ⟨rfl, h9, k9⟩)
            go_end0
            exact ⟨rfl, by rw [HSW.out, HCL.out]; exact h9, HK1.out.trans' (k6.trans' (k9.more (by simp)))⟩
      · have hL1 : decide ((0 : Int) < (L : Int)) = false := decide_eq_false (by omega)
        have hm1 : decide (0 < m) = true := decide_eq_true (by omega)
        cases bad with
        | false =>
          go_upto_region 9 with (go_at_call 347; (with_reducible refine HN2.out.mono ?_); rintro e w5 ⟨rfl, hb5⟩)
          have h6 : WinAt s2 t2 C D w5 := h4.below hb5
          have k6 : Kept [C, D] w1 w5 := k4.trans' (Kept.of_below _ hb5)
          have c2 := h6.cells.2.2.1
          have HSW : Hid (s2.wrong false = s2) := Lib.hid rfl
          clear b0 b1 b2 b3 b4 h4 k4 hb5
          by_cases hp : 0 < (s2).pipe
          · have hp1 : decide (0 < (s2).pipe) = true := decide_eq_true hp
            have HCL : Hid ((s2).clock due = (s2).run due) := Lib.hid (by unfold WinS.clock; rw [if_pos hp])
            clear hp
            go_wp2_with (go_at_call 173; (with_reducible refine (HRU.out _ _ h6).mono ?_); rintro e w9 ⟨rfl, h9, k9⟩)
            go_end0
            exact ⟨rfl, by rw [HSW.out, HCL.out]; exact h9, HK1.out.trans' (k6.trans' (k9.more (by simp)))⟩
          · have hp1 : decide (0 < (s2).pipe) = false := decide_eq_false hp
            have HCL : Hid ((s2).clock due = (s2).stop) := Lib.hid (by unfold WinS.clock; rw [if_neg hp])
            clear hp
            go_wp2_with (go_at_call 345; (with_reducible refine (HST.out _ _ h6).mono ?_); rintro e w9 ⟨rfl, h9, k9⟩)
            go_end0
            exact ⟨rfl, by rw [HSW.out, HCL.out]; exact h9, HK1.out.trans' (k6.trans' (k9.more (by simp)))⟩
        | true =>
          go_upto_region 8 with (first
            | (go_at_call 347; (with_reducible refine HN2.out.mono ?_); rintro e w5 ⟨rfl, hb5⟩; have h5 := h4.below hb5)
            | (go_at_call 343; (with_reducible refine (HHV.out _ h5).mono ?_); rintro e w6 ⟨rfl, h7, k7⟩))
          have a0 := BlkIs.free h7.win 0
          have a1 := h7.cells.2.1
          have a2 := h7.cells.1
          have h6 : WinAt { s2.halve with cwnd := s2.halve.slow } t2 C D (w6.setCell ⟨C, 0, none⟩ (.int .i64 s2.halve.slow)) := h7.put (i := 0) rfl
          have k6 : Kept [C, D] w1 (w6.setCell ⟨C, 0, none⟩ (.int .i64 s2.halve.slow)) := ((k4.trans' (Kept.of_below _ hb5)).trans' (k7.more (by simp))).setCell (.inl (by simp)) _
          go_upto_region 9 with fail
          clear b0 b1 b2 b3 b4 h4 k4 hb5 h5 h7 k7 a0 a1 a2
          generalize w6.setCell ⟨C, 0, none⟩ (.int .i64 s2.halve.slow) = wf at *
          have c2 := h6.cells.2.2.1
          have HSW : Hid (s2.wrong true = { s2.halve with cwnd := s2.halve.slow }) := Lib.hid rfl
          by_cases hp : 0 < ({ s2.halve with cwnd := s2.halve.slow } : WinS).pipe
          · have hp1 : decide (0 < ({ s2.halve with cwnd := s2.halve.slow } : WinS).pipe) = true := decide_eq_true hp
            have HCL : Hid (({ s2.halve with cwnd := s2.halve.slow } : WinS).clock due = ({ s2.halve with cwnd := s2.halve.slow } : WinS).run due) := Lib.hid (by unfold WinS.clock; rw [if_pos hp])
            clear hp
            go_wp2_with (go_at_call 173; (with_reducible refine (HRU.out _ _ h6).mono ?_); rintro e w9 ⟨rfl, h9, k9⟩)
            go_end0
            exact ⟨rfl, by rw [HSW.out, HCL.out]; exact h9, HK1.out.trans' (k6.trans' (k9.more (by simp)))⟩
          · have hp1 : decide (0 < ({ s2.halve with cwnd := s2.halve.slow } : WinS).pipe) = false := decide_eq_false hp
            have HCL : Hid (({ s2.halve with cwnd := s2.halve.slow } : WinS).clock due = ({ s2.halve with cwnd := s2.halve.slow } : WinS).stop) := Lib.hid (by unfold WinS.clock; rw [if_neg hp])
            clear hp
            go_wp2_with (go_at_call 345; (with_reducible refine (HST.out _ _ h6).mono ?_); rintro e w9 ⟨rfl, h9, k9⟩)
            go_end0
            exact ⟨rfl, by rw [HSW.out, HCL.out]; exact h9, HK1.out.trans' (k6.trans' (k9.more (by simp)))⟩
end Go.Proofs.YtnhlachoimlhhaaGreatDoor
