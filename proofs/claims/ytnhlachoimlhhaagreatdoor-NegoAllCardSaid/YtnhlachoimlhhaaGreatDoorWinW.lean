/-
  Package win: what lies behind its pointer; its small calls.
  Package win: halving; waiting in vain.
  Package win: how it grows; its small answers.
  Package win: the furthest one of lists; what is news; what is heard.
  Package win: what is news; what is heard.
  Package win: what is heard, in general.
-/
import Derived.Test.YtnhlachoimlhhaaGreatDoorRttW
import Derived.Test.YtnhlachoimlhhaaGreatDoorSeqA
import Derived.Laws.Rows
namespace Go.Proofs.YtnhlachoimlhhaaGreatDoor
open Go.ChangeShapes Go.WideShapes Go.ChangeAt Go.RowKit
set_option linter.unusedVariables false
set_option linter.unusedSimpArgs false

/-- A window's numbers; the last number that was sent, the one at the last halving, each with whether there is one. -/
structure WinS where
  cwnd : Int
  slow : Int
  pipe : Int
  count : Int
  ln : Nat
  lk : Bool
  hn : Nat
  hk : Bool
  due : Int
  runs : Bool
def WinS.init : WinS := ⟨3, 1000000, 0, 0, 0, false, 0, false, 0, false⟩
structure WinS.ok (s : WinS) : Prop where
  b0 : 1 ≤ s.cwnd ∧ s.cwnd ≤ 1099511627776
  b1 : 1 ≤ s.slow ∧ s.slow ≤ 1099511627776
  b2 : 0 ≤ s.pipe ∧ s.pipe ≤ 1099511627776
  b3 : 0 ≤ s.count ∧ s.count ≤ 1099511627776
  b4 : s.ln < 18446744073709551616
  b5 : s.hn < 18446744073709551616
theorem WinS.ok_init : WinS.init.ok := ⟨by decide, by decide, by decide, by decide, by decide, by decide⟩
def M.winDue (now rto : Int) : Int := min (min now 4611686018427387904 + rto) 4611686018427387904
def WinS.run (s : WinS) (due : Int) : WinS := { s with due := due, runs := true }
def WinS.stop (s : WinS) : WinS := { s with due := 0, runs := false }
/-- One more was sent. -/
def WinS.sent (s : WinS) (n : Nat) (due : Int) : WinS := if s.runs = true then { s with pipe := s.pipe + 1, ln := n, lk := true } else { s with pipe := s.pipe + 1, ln := n, lk := true, due := due, runs := true }
def WinS.halve (s : WinS) : WinS := { s with slow := max (s.cwnd / 2) 1, count := 0, hn := s.ln, hk := s.lk }
def winCells (s : WinS) (D : Nat) : Array Value := #[.int .i64 s.cwnd, .int .i64 s.slow, .int .i64 s.pipe, .int .i64 s.count, .pointer (some ⟨D, 0, none⟩), .int .u64 s.ln, .bool s.lk, .int .u64 s.hn, .bool s.hk, .int .i64 s.due, .bool s.runs]
/-- A window at block C, its times at block D. -/
structure WinAt (s : WinS) (t : RttS) (C D : Nat) (w : World) : Prop where
  win : BlkIs (winCells s D) 152 C w
  rtt : RttBlk t D w
  ne : C ≠ D
theorem WinAt.kept {s : WinS} {t : RttS} {C D : Nat} {S : List Nat} {w w' : World} (h : WinAt s t C D w) (k : Kept S w w') (h1 : C ∉ S) (h2 : D ∉ S) : WinAt s t C D w' := ⟨h.win.kept k h1, BlkIs.kept h.rtt k h2, h.ne⟩
theorem WinAt.drewN {s : WinS} {t : RttS} {C D : Nat} {w : World} (h : WinAt s t C D w) (n : Nat) : WinAt s t C D (w.drewN n) := ⟨h.win, h.rtt, h.ne⟩
theorem WinAt.below {s : WinS} {t : RttS} {C D : Nat} {w w' : World} (h : WinAt s t C D w) (k : Below w.heap.size w w') : WinAt s t C D w' := ⟨h.win.below k, BlkIs.below h.rtt k, h.ne⟩

theorem winNew_any (w : World) : Calls Tryz.prog 75 #[] w fun e w' => ∃ C D, e = .returned (.pointer (some ⟨C, 0, none⟩)) ∧ WinAt WinS.init RttS.zero C D w' ∧ w.heap.size ≤ C ∧ w.heap.size ≤ D ∧ Below w.heap.size w w' := by
  go_enter Tryz.func75, Tryz.ntmps75
  go_wp2_with (go_at_call 112; refine (rttNew_any _).mono ?_; rintro e w1 ⟨rfl, rfl⟩)
  go_ret
  refine ⟨w.heap.size + 1, w.heap.size, rfl, ⟨?_, BlkIs.alloc (BlkIs.new _ _ _) _, by omega⟩, by omega, Nat.le_refl _, bel_trans (bel_alloc _ _) (bel_alloc _ _)⟩
  have h := BlkIs.new (winCells WinS.init w.heap.size) 152 (w.alloc (.cells (rttCells RttS.zero) 191))
  simp only [World.size_alloc] at h
  exact h
theorem winMay_any (s : WinS) (t : RttS) (C D : Nat) (w : World) (h : WinAt s t C D w) :
    Calls Tryz.prog 138 #[.pointer (some ⟨C, 0, none⟩)] w fun e w' => e = .returned (.bool (decide (s.pipe < s.cwnd))) ∧ ∃ n, w' = w.drewN n := by
  have c0 : w.cell? ⟨C, 0, none⟩ = some (.int .i64 s.cwnd) := BlkIs.cell h.win 0
  have c2 : w.cell? ⟨C, 2, none⟩ = some (.int .i64 s.pipe) := BlkIs.cell h.win 2
  clear h
  go_enter Tryz.func138, Tryz.ntmps138
  go_wp2
  go_quiet (fail)
  go_wp2
  go_ret
  exact ⟨rfl, _, rfl⟩
theorem winRun_any (s : WinS) (t : RttS) (ht : t.ok) (now : Int) (hn : -9223372036854775808 ≤ now ∧ now ≤ 9223372036854775807) (C D : Nat) (w : World) (h : WinAt s t C D w) :
    Calls Tryz.prog 173 #[.pointer (some ⟨C, 0, none⟩), .int .i64 now] w fun e w' => e = .returned (.tuple #[]) ∧ WinAt (s.run (M.winDue now t.rto)) t C D w' ∧ Kept [C] w w' := by
  have HH := Lib.hid h
  have HR := Lib.hid (rttRto_any t ht D w h.rtt)
  obtain ⟨r0, r1⟩ := ht.rto
  generalize t.rto = R at *
  obtain ⟨E, hE⟩ : ∃ E, (if 4611686018427387904 < now then 4611686018427387904 else now) = E := ⟨_, rfl⟩
  have hE1 : E ≤ 4611686018427387904 ∧ -9223372036854775808 ≤ E := by rw [← hE]; split <;> omega
  obtain ⟨F, hF⟩ : ∃ F, (if 4611686018427387904 < E + R then 4611686018427387904 else E + R) = F := ⟨_, rfl⟩
  have HD : Hid (M.winDue now R = F) := Lib.hid (by rw [← hF, ← hE]; unfold M.winDue; split <;> split <;> omega)
  rw [HD.out]
  obtain ⟨e1, e2⟩ := hE1
  have c4 : w.cell? ⟨C, 4, none⟩ = some (.pointer (some ⟨D, 0, none⟩)) := BlkIs.cell h.win 4
  have c9 : w.cell? ⟨C, 9, none⟩ = some (.int .i64 s.due) := BlkIs.cell h.win 9
  have c10 : w.cell? ⟨C, 10, none⟩ = some (.bool s.runs) := BlkIs.cell h.win 10
  have f9 := BlkIs.free h.win 9
  have f10 := BlkIs.free h.win 10
  clear h HD
  go_enter Tryz.func173, Tryz.ntmps173
  go_wp2_with (go_at_call 147; (with_reducible refine HR.out.mono ?_); rintro e w1 ⟨rfl, n, rfl⟩)
  go_end0
  refine ⟨rfl, ⟨BlkIs.set (BlkIs.set (BlkIs.drewN HH.out.win n) 9 _) 10 _, ?_, HH.out.ne⟩, (((Kept.refl _ _).drewN n).setCell (.inl (by simp)) _).setCell (.inl (by simp)) _⟩
  exact BlkIs.far (BlkIs.far (BlkIs.drewN HH.out.rtt n) (by simp; exact fun h => HH.out.ne h.symm) _) (by simp; exact fun h => HH.out.ne h.symm) _
theorem winDue_any (s : WinS) (t : RttS) (C D : Nat) (w : World) (h : WinAt s t C D w) :
    Calls Tryz.prog 139 #[.pointer (some ⟨C, 0, none⟩)] w fun e w' => e = .returned (.tuple #[.int .i64 s.due, .bool s.runs]) ∧ ∃ n, w' = w.drewN n := by
  have c9 : w.cell? ⟨C, 9, none⟩ = some (.int .i64 s.due) := BlkIs.cell h.win 9
  have c10 : w.cell? ⟨C, 10, none⟩ = some (.bool s.runs) := BlkIs.cell h.win 10
  clear h
  go_enter Tryz.func139, Tryz.ntmps139
  go_wp2
  go_quiet (fail)
  go_wp2
  go_ret2
  exact ⟨rfl, _, rfl⟩
theorem winCwnd_any (s : WinS) (t : RttS) (C D : Nat) (w : World) (h : WinAt s t C D w) :
    Calls Tryz.prog 54 #[.pointer (some ⟨C, 0, none⟩)] w fun e w' => e = .returned (.int .i64 s.cwnd) ∧ w = w' := by
  have c0 : w.cell? ⟨C, 0, none⟩ = some (.int .i64 s.cwnd) := BlkIs.cell h.win 0
  clear h
  go_enter Tryz.func54, Tryz.ntmps54
  go_wp2
  go_ret
  exact ⟨rfl, rfl⟩
set_option maxHeartbeats 1000000 in
theorem winSent_yes (s : WinS) (hs : s.ok) (hp : s.pipe < s.cwnd) (t : RttS) (ht : t.ok) (n : Nat) (hnn : n < 18446744073709551616) (now : Int) (hn : -9223372036854775808 ≤ now ∧ now ≤ 9223372036854775807) (C D : Nat) (w : World) (h : WinAt s t C D w) :
    Calls Tryz.prog 137 #[.pointer (some ⟨C, 0, none⟩), .int .u64 n, .int .i64 now] w fun e w' => e = .returned (.bool true) ∧ WinAt (s.sent n (M.winDue now t.rto)) t C D w' ∧ Kept [C] w w' := by
  have HH := Lib.hid h
  have HM := Lib.hid (winMay_any s t C D w h)
  rw [decide_eq_true hp] at HM
  obtain ⟨p0, p1⟩ := hs.b2
  have c2 : w.cell? ⟨C, 2, none⟩ = some (.int .i64 s.pipe) := BlkIs.cell h.win 2
  have c5 : w.cell? ⟨C, 5, none⟩ = some (.int .u64 s.ln) := BlkIs.cell h.win 5
  have c6 : w.cell? ⟨C, 6, none⟩ = some (.bool s.lk) := BlkIs.cell h.win 6
  have c10 : w.cell? ⟨C, 10, none⟩ = some (.bool s.runs) := BlkIs.cell h.win 10
  have f2 := BlkIs.free h.win 2
  have f5 := BlkIs.free h.win 5
  have f6 := BlkIs.free h.win 6
  cases hr : s.runs with
  | true =>
    rw [hr] at c10
    have e : Hid (s.sent n (M.winDue now t.rto) = { s with pipe := s.pipe + 1, ln := n, lk := true }) := Lib.hid (by unfold WinS.sent; rw [if_pos hr])
    clear h hr
    go_enter Tryz.func137, Tryz.ntmps137
    go_wp2_with (go_at_call 138; (with_reducible refine HM.out.mono ?_); rintro e w1 ⟨rfl, n1, rfl⟩)
    go_ret
    refine ⟨rfl, ?_, (((((Kept.refl _ _).drewN n1).setCell (.inl (by simp)) _).setCell (.inl (by simp)) _).setCell (.inl (by simp)) _)⟩
    rw [e.out]
    have hne := HH.out.ne
    refine ⟨BlkIs.set (BlkIs.set (BlkIs.set (BlkIs.drewN HH.out.win n1) 2 _) 5 _) 6 _, ?_, hne⟩
    exact BlkIs.far (BlkIs.far (BlkIs.far (BlkIs.drewN HH.out.rtt n1) (by simp; exact fun h => hne h.symm) _) (by simp; exact fun h => hne h.symm) _) (by simp; exact fun h => hne h.symm) _
  | false =>
    rw [hr] at c10
    have e : Hid (s.sent n (M.winDue now t.rto) = ({ s with pipe := s.pipe + 1, ln := n, lk := true } : WinS).run (M.winDue now t.rto)) := Lib.hid (by unfold WinS.sent; rw [if_neg (by simp [hr])]; rfl)
    have HRUN : Hid (∀ W, WinAt { s with pipe := s.pipe + 1, ln := n, lk := true } t C D W → Calls Tryz.prog 173 #[.pointer (some ⟨C, 0, none⟩), .int .i64 now] W fun e w' => e = .returned (.tuple #[]) ∧ WinAt (({ s with pipe := s.pipe + 1, ln := n, lk := true } : WinS).run (M.winDue now t.rto)) t C D w' ∧ Kept [C] W w') := Lib.hid (fun W hW => winRun_any _ t ht now hn C D W hW)
    have HMID : Hid (∀ n1, WinAt { s with pipe := s.pipe + 1, ln := n, lk := true } t C D ((((w.drewN n1).setCell ⟨C, 2, none⟩ (.int .i64 (s.pipe + 1))).setCell ⟨C, 5, none⟩ (.int .u64 n)).setCell ⟨C, 6, none⟩ (.bool true))) := Lib.hid (fun n1 => by
      have hne := HH.out.ne
      refine ⟨BlkIs.set (BlkIs.set (BlkIs.set (BlkIs.drewN HH.out.win n1) 2 _) 5 _) 6 _, ?_, hne⟩
      exact BlkIs.far (BlkIs.far (BlkIs.far (BlkIs.drewN HH.out.rtt n1) (by simp; exact fun h => hne h.symm) _) (by simp; exact fun h => hne h.symm) _) (by simp; exact fun h => hne h.symm) _)
    clear h hr
    go_enter Tryz.func137, Tryz.ntmps137
    go_wp2_with (first
      | (go_at_call 138; (with_reducible refine HM.out.mono ?_); rintro e w1 ⟨rfl, n1, rfl⟩)
      | (go_at_call 173; (with_reducible refine (HRUN.out _ (HMID.out _)).mono ?_); rintro e w2 ⟨rfl, hw2, hk2⟩))
    go_ret
    refine ⟨rfl, by rw [e.out]; exact hw2, Kept.trans' ?_ hk2⟩
    exact (((((Kept.refl _ _).drewN n1).setCell (.inl (by simp)) _).setCell (.inl (by simp)) _).setCell (.inl (by simp)) _)
end Go.Proofs.YtnhlachoimlhhaaGreatDoor

namespace Go.Proofs.YtnhlachoimlhhaaGreatDoor
open Go.ChangeShapes Go.WideShapes Go.ChangeAt Go.RowKit
set_option linter.unusedVariables false
set_option linter.unusedSimpArgs false

theorem WinAt.cells {s : WinS} {t : RttS} {C D : Nat} {w : World} (h : WinAt s t C D w) : (w.cell? ⟨C, 0, none⟩ = some (.int .i64 s.cwnd) ∧ w.cell? ⟨C, 1, none⟩ = some (.int .i64 s.slow) ∧ w.cell? ⟨C, 2, none⟩ = some (.int .i64 s.pipe) ∧ w.cell? ⟨C, 3, none⟩ = some (.int .i64 s.count) ∧ w.cell? ⟨C, 4, none⟩ = some (.pointer (some ⟨D, 0, none⟩)) ∧
    w.cell? ⟨C, 5, none⟩ = some (.int .u64 s.ln) ∧ w.cell? ⟨C, 6, none⟩ = some (.bool s.lk) ∧ w.cell? ⟨C, 7, none⟩ = some (.int .u64 s.hn) ∧ w.cell? ⟨C, 8, none⟩ = some (.bool s.hk) ∧ w.cell? ⟨C, 9, none⟩ = some (.int .i64 s.due) ∧ w.cell? ⟨C, 10, none⟩ = some (.bool s.runs)) :=
  ⟨BlkIs.cell h.win 0, BlkIs.cell h.win 1, BlkIs.cell h.win 2, BlkIs.cell h.win 3, BlkIs.cell h.win 4, BlkIs.cell h.win 5, BlkIs.cell h.win 6, BlkIs.cell h.win 7, BlkIs.cell h.win 8, BlkIs.cell h.win 9, BlkIs.cell h.win 10⟩
/-- Its own cells turned: what its times are stays. -/
theorem WinAt.put {s s' : WinS} {t : RttS} {C D i : Nat} {v : Value} {w : World} (h : WinAt s t C D w) (e : (winCells s D).setIfInBounds i v = winCells s' D) : WinAt s' t C D (w.setCell ⟨C, i, none⟩ v) := by
  refine ⟨?_, BlkIs.far h.rtt (fun e => h.ne e.symm) _, h.ne⟩
  have h1 := BlkIs.set h.win i v
  rw [e] at h1
  exact h1
end Go.Proofs.YtnhlachoimlhhaaGreatDoor

namespace Go.Proofs.YtnhlachoimlhhaaGreatDoor
open Go.ChangeShapes Go.WideShapes Go.ChangeAt Go.RowKit
set_option linter.unusedVariables false
set_option linter.unusedSimpArgs false

/-- How many of n got ones open it at once. -/
def WinS.fast (s : WinS) (n : Int) : Int := max (min n (s.slow - s.cwnd)) 0
/-- n were got. -/
def WinS.grow (s : WinS) (n : Int) : WinS := if s.count + (n - s.fast n) < s.cwnd + s.fast n then { s with cwnd := s.cwnd + s.fast n, count := s.count + (n - s.fast n) } else { s with cwnd := s.cwnd + s.fast n + 1, count := s.count + (n - s.fast n) - (s.cwnd + s.fast n) }
end Go.Proofs.YtnhlachoimlhhaaGreatDoor

namespace Go.Proofs.YtnhlachoimlhhaaGreatDoor
open Go.ChangeShapes Go.WideShapes Go.ChangeAt Go.RowKit
set_option linter.unusedVariables false
set_option linter.unusedSimpArgs false

end Go.Proofs.YtnhlachoimlhhaaGreatDoor

namespace Go.Proofs.YtnhlachoimlhhaaGreatDoor
open Go.ChangeShapes Go.WideShapes Go.ChangeAt Go.RowKit
set_option linter.unusedVariables false
set_option linter.unusedSimpArgs false

end Go.Proofs.YtnhlachoimlhhaaGreatDoor

namespace Go.Proofs.YtnhlachoimlhhaaGreatDoor
open Go.ChangeShapes Go.WideShapes Go.ChangeAt Go.RowKit
set_option linter.unusedVariables false
set_option linter.unusedSimpArgs false

/-- What went wrong is news, or not. -/
def WinS.wrong (s : WinS) (bad : Bool) : WinS := if bad = true then { s.halve with cwnd := s.halve.slow } else s
def RttS.heard (t : RttS) (r : Int) : RttS := if 0 ≤ r then t.sample r else t
end Go.Proofs.YtnhlachoimlhhaaGreatDoor
