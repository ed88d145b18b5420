/-
  Package win: what lies behind its pointer; its small calls.
-/
import Derived.Test.YtbiglbclifbmhaaGreatDoorRttA
namespace Go.Proofs.YtbiglbclifbmhaaGreatDoor
open Go.ChangeShapes Go.WideShapes Go.ChangeAt Go.RowKit
set_option linter.unusedVariables false
set_option linter.unusedSimpArgs false

/-- A window's numbers; the last number that was sent, the one at the last halving, each with whether there is one. -/
structure WinS where
  cwnd : Int
  slow : Int
  pipe : Int
  count : Int
  ln : Nat
  lk : Bool
  hn : Nat
  hk : Bool
  due : Int
  runs : Bool
def WinS.init : WinS := ⟨3, 1000000, 0, 0, 0, false, 0, false, 0, false⟩
structure WinS.ok (s : WinS) : Prop where
  b0 : 1 ≤ s.cwnd ∧ s.cwnd ≤ 1099511627776
  b1 : 1 ≤ s.slow ∧ s.slow ≤ 1099511627776
  b2 : 0 ≤ s.pipe ∧ s.pipe ≤ 1099511627776
  b3 : 0 ≤ s.count ∧ s.count ≤ 1099511627776
  b4 : s.ln < 18446744073709551616
  b5 : s.hn < 18446744073709551616
theorem WinS.ok_init : WinS.init.ok := ⟨by decide, by decide, by decide, by decide, by decide, by decide⟩
def M.winDue (now rto : Int) : Int := min (min now 4611686018427387904 + rto) 4611686018427387904
def WinS.run (s : WinS) (due : Int) : WinS := { s with due := due, runs := true }
def WinS.stop (s : WinS) : WinS := { s with due := 0, runs := false }
/-- One more was sent. -/
def WinS.sent (s : WinS) (n : Nat) (due : Int) : WinS := if s.runs = true then { s with pipe := s.pipe + 1, ln := n, lk := true } else { s with pipe := s.pipe + 1, ln := n, lk := true, due := due, runs := true }
def WinS.halve (s : WinS) : WinS := { s with slow := max (s.cwnd / 2) 1, count := 0, hn := s.ln, hk := s.lk }
def winCells (s : WinS) (D : Nat) : Array Value := #[.int .i64 s.cwnd, .int .i64 s.slow, .int .i64 s.pipe, .int .i64 s.count, .pointer (some ⟨D, 0, none⟩), .int .u64 s.ln, .bool s.lk, .int .u64 s.hn, .bool s.hk, .int .i64 s.due, .bool s.runs]
/-- A window at block C, its times at block D. -/
structure WinAt (s : WinS) (t : RttS) (C D : Nat) (w : World) : Prop where
  win : BlkIs (winCells s D) 93 C w
  rtt : RttBlk t D w
  ne : C ≠ D
theorem WinAt.kept {s : WinS} {t : RttS} {C D : Nat} {S : List Nat} {w w' : World} (h : WinAt s t C D w) (k : Kept S w w') (h1 : C ∉ S) (h2 : D ∉ S) : WinAt s t C D w' := ⟨h.win.kept k h1, BlkIs.kept h.rtt k h2, h.ne⟩
theorem WinAt.drewN {s : WinS} {t : RttS} {C D : Nat} {w : World} (h : WinAt s t C D w) (n : Nat) : WinAt s t C D (w.drewN n) := ⟨h.win, h.rtt, h.ne⟩
theorem WinAt.below {s : WinS} {t : RttS} {C D : Nat} {w w' : World} (h : WinAt s t C D w) (k : Below w.heap.size w w') : WinAt s t C D w' := ⟨h.win.below k, BlkIs.below h.rtt k, h.ne⟩

theorem winNew_any (w : World) : Calls Tryz.prog 17 #[] w fun e w' => ∃ C D, e = .returned (.pointer (some ⟨C, 0, none⟩)) ∧ WinAt WinS.init RttS.zero C D w' ∧ w.heap.size ≤ C ∧ w.heap.size ≤ D ∧ Below w.heap.size w w' := by
  go_enter Tryz.func17, Tryz.ntmps17
  go_wp2_with (go_at_call 16; refine (rttNew_any _).mono ?_; rintro e w1 ⟨rfl, rfl⟩)
  go_ret
  refine ⟨w.heap.size + 1, w.heap.size, rfl, ⟨?_, BlkIs.alloc (BlkIs.new _ _ _) _, by omega⟩, by omega, Nat.le_refl _, bel_trans (bel_alloc _ _) (bel_alloc _ _)⟩
  have h := BlkIs.new (winCells WinS.init w.heap.size) 93 (w.alloc (.cells (rttCells RttS.zero) 89))
  simp only [World.size_alloc] at h
  exact h
theorem winMay_any (s : WinS) (t : RttS) (C D : Nat) (w : World) (h : WinAt s t C D w) :
    Calls Tryz.prog 26 #[.pointer (some ⟨C, 0, none⟩)] w fun e w' => e = .returned (.bool (decide (s.pipe < s.cwnd))) ∧ ∃ n, w' = w.drewN n := by
  have c0 : w.cell? ⟨C, 0, none⟩ = some (.int .i64 s.cwnd) := BlkIs.cell h.win 0
  have c2 : w.cell? ⟨C, 2, none⟩ = some (.int .i64 s.pipe) := BlkIs.cell h.win 2
  clear h
  go_enter Tryz.func26, Tryz.ntmps26
  go_wp2
  go_quiet (fail)
  go_wp2
  go_ret
  exact ⟨rfl, _, rfl⟩
theorem winRun_any (s : WinS) (t : RttS) (ht : t.ok) (now : Int) (hn : -9223372036854775808 ≤ now ∧ now ≤ 9223372036854775807) (C D : Nat) (w : World) (h : WinAt s t C D w) :
    Calls Tryz.prog 61 #[.pointer (some ⟨C, 0, none⟩), .int .i64 now] w fun e w' => e = .returned (.tuple #[]) ∧ WinAt (s.run (M.winDue now t.rto)) t C D w' ∧ Kept [C] w w' := by
  have HH := Lib.hid h
  have HR := Lib.hid (rttRto_any t ht D w h.rtt)
  obtain ⟨r0, r1⟩ := ht.rto
  generalize t.rto = R at *
  obtain ⟨E, hE⟩ : ∃ E, (if 4611686018427387904 < now then 4611686018427387904 else now) = E := ⟨_, rfl⟩
  have hE1 : E ≤ 4611686018427387904 ∧ -9223372036854775808 ≤ E := by rw [← hE]; split <;> omega
  obtain ⟨F, hF⟩ : ∃ F, (if 4611686018427387904 < E + R then 4611686018427387904 else E + R) = F := ⟨_, rfl⟩
  have HD : Hid (M.winDue now R = F) := Lib.hid (by rw [← hF, ← hE]; unfold M.winDue; split <;> split <;> omega)
  rw [HD.out]
  obtain ⟨e1, e2⟩ := hE1
  have c4 : w.cell? ⟨C, 4, none⟩ = some (.pointer (some ⟨D, 0, none⟩)) := BlkIs.cell h.win 4
  have c9 : w.cell? ⟨C, 9, none⟩ = some (.int .i64 s.due) := BlkIs.cell h.win 9
  have c10 : w.cell? ⟨C, 10, none⟩ = some (.bool s.runs) := BlkIs.cell h.win 10
  have f9 := BlkIs.free h.win 9
  have f10 := BlkIs.free h.win 10
  clear h HD
  go_enter Tryz.func61, Tryz.ntmps61
  go_wp2_with (go_at_call 34; (with_reducible refine HR.out.mono ?_); rintro e w1 ⟨rfl, n, rfl⟩)
  go_end0
  refine ⟨rfl, ⟨BlkIs.set (BlkIs.set (BlkIs.drewN HH.out.win n) 9 _) 10 _, ?_, HH.out.ne⟩, (((Kept.refl _ _).drewN n).setCell (.inl (by simp)) _).setCell (.inl (by simp)) _⟩
  exact BlkIs.far (BlkIs.far (BlkIs.drewN HH.out.rtt n) (by simp; exact fun h => HH.out.ne h.symm) _) (by simp; exact fun h => HH.out.ne h.symm) _
theorem winDue_any (s : WinS) (t : RttS) (C D : Nat) (w : World) (h : WinAt s t C D w) :
    Calls Tryz.prog 27 #[.pointer (some ⟨C, 0, none⟩)] w fun e w' => e = .returned (.tuple #[.int .i64 s.due, .bool s.runs]) ∧ ∃ n, w' = w.drewN n := by
  have c9 : w.cell? ⟨C, 9, none⟩ = some (.int .i64 s.due) := BlkIs.cell h.win 9
  have c10 : w.cell? ⟨C, 10, none⟩ = some (.bool s.runs) := BlkIs.cell h.win 10
  clear h
  go_enter Tryz.func27, Tryz.ntmps27
  go_wp2
  go_quiet (fail)
  go_wp2
  go_ret2
  exact ⟨rfl, _, rfl⟩
set_option maxHeartbeats 1000000 in
theorem winSent_yes (s : WinS) (hs : s.ok) (hp : s.pipe < s.cwnd) (t : RttS) (ht : t.ok) (n : Nat) (hnn : n < 18446744073709551616) (now : Int) (hn : -9223372036854775808 ≤ now ∧ now ≤ 9223372036854775807) (C D : Nat) (w : World) (h : WinAt s t C D w) :
    Calls Tryz.prog 25 #[.pointer (some ⟨C, 0, none⟩), .int .u64 n, .int .i64 now] w fun e w' => e = .returned (.bool true) ∧ WinAt (s.sent n (M.winDue now t.rto)) t C D w' ∧ Kept [C] w w' := by
  have HH := Lib.hid h
  have HM := Lib.hid (winMay_any s t C D w h)
  rw [decide_eq_true hp] at HM
  obtain ⟨p0, p1⟩ := hs.b2
  have c2 : w.cell? ⟨C, 2, none⟩ = some (.int .i64 s.pipe) := BlkIs.cell h.win 2
  have c5 : w.cell? ⟨C, 5, none⟩ = some (.int .u64 s.ln) := BlkIs.cell h.win 5
  have c6 : w.cell? ⟨C, 6, none⟩ = some (.bool s.lk) := BlkIs.cell h.win 6
  have c10 : w.cell? ⟨C, 10, none⟩ = some (.bool s.runs) := BlkIs.cell h.win 10
  have f2 := BlkIs.free h.win 2
  have f5 := BlkIs.free h.win 5
  have f6 := BlkIs.free h.win 6
  cases hr : s.runs with
  | true =>
    rw [hr] at c10
    have e : Hid (s.sent n (M.winDue now t.rto) = { s with pipe := s.pipe + 1, ln := n, lk := true }) := Lib.hid (by unfold WinS.sent; rw [if_pos hr])
    clear h hr
    go_enter Tryz.func25, Tryz.ntmps25
    go_wp2_with (go_at_call 26; (with_reducible refine HM.out.mono ?_); rintro e w1 ⟨rfl, n1, rfl⟩)
    go_ret
    refine ⟨rfl, ?_, (((((Kept.refl _ _).drewN n1).setCell (.inl (by simp)) _).setCell (.inl (by simp)) _).setCell (.inl (by simp)) _)⟩
    rw [e.out]
    have hne := HH.out.ne
    refine ⟨BlkIs.set (BlkIs.set (BlkIs.set (BlkIs.drewN HH.out.win n1) 2 _) 5 _) 6 _, ?_, hne⟩
    exact BlkIs.far (BlkIs.far (BlkIs.far (BlkIs.drewN HH.out.rtt n1) (by simp; exact fun h => hne h.symm) _) (by simp; exact fun h => hne h.symm) _) (by simp; exact fun h => hne h.symm) _
  | false =>
    rw [hr] at c10
    have e : Hid (s.sent n (M.winDue now t.rto) = ({ s with pipe := s.pipe + 1, ln := n, lk := true } : WinS).run (M.winDue now t.rto)) := Lib.hid (by unfold WinS.sent; rw [if_neg (by simp [hr])]; rfl)
    have HRUN : Hid (∀ W, WinAt { s with pipe := s.pipe + 1, ln := n, lk := true } t C D W → Calls Tryz.prog 61 #[.pointer (some ⟨C, 0, none⟩), .int .i64 now] W fun e w' => e = .returned (.tuple #[]) ∧ WinAt (({ s with pipe := s.pipe + 1, ln := n, lk := true } : WinS).run (M.winDue now t.rto)) t C D w' ∧ Kept [C] W w') := Lib.hid (fun W hW => winRun_any _ t ht now hn C D W hW)
    have HMID : Hid (∀ n1, WinAt { s with pipe := s.pipe + 1, ln := n, lk := true } t C D ((((w.drewN n1).setCell ⟨C, 2, none⟩ (.int .i64 (s.pipe + 1))).setCell ⟨C, 5, none⟩ (.int .u64 n)).setCell ⟨C, 6, none⟩ (.bool true))) := Lib.hid (fun n1 => by
      have hne := HH.out.ne
      refine ⟨BlkIs.set (BlkIs.set (BlkIs.set (BlkIs.drewN HH.out.win n1) 2 _) 5 _) 6 _, ?_, hne⟩
      exact BlkIs.far (BlkIs.far (BlkIs.far (BlkIs.drewN HH.out.rtt n1) (by simp; exact fun h => hne h.symm) _) (by simp; exact fun h => hne h.symm) _) (by simp; exact fun h => hne h.symm) _)
    clear h hr
    go_enter Tryz.func25, Tryz.ntmps25
    go_wp2_with (first
      | (go_at_call 26; (with_reducible refine HM.out.mono ?_); rintro e w1 ⟨rfl, n1, rfl⟩)
      | (go_at_call 61; (with_reducible refine (HRUN.out _ (HMID.out _)).mono ?_); rintro e w2 ⟨rfl, hw2, hk2⟩))
    go_ret
    refine ⟨rfl, by rw [e.out]; exact hw2, Kept.trans' ?_ hk2⟩
    exact (((((Kept.refl _ _).drewN n1).setCell (.inl (by simp)) _).setCell (.inl (by simp)) _).setCell (.inl (by simp)) _)
theorem winSent_no (s : WinS) (hp : ¬ s.pipe < s.cwnd) (t : RttS) (n : Nat) (now : Int) (C D : Nat) (w : World) (h : WinAt s t C D w) :
    Calls Tryz.prog 25 #[.pointer (some ⟨C, 0, none⟩), .int .u64 n, .int .i64 now] w fun e w' => e = .returned (.bool false) ∧ ∃ n, w' = w.drewN n := by
  have HM := Lib.hid (winMay_any s t C D w h)
  rw [decide_eq_false hp] at HM
  clear h
  go_enter Tryz.func25, Tryz.ntmps25
  go_wp2_with (go_at_call 26; (with_reducible refine HM.out.mono ?_); rintro e w1 ⟨rfl, n1, rfl⟩)
  go_ret
  exact ⟨rfl, _, rfl⟩
end Go.Proofs.YtbiglbclifbmhaaGreatDoor
