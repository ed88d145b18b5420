/-
  Package tfrc: what lies behind its pointer; its small calls.
  Package tfrc: the clock, the first time that something is heard.
  Package tfrc: the first time that something is heard, without loss.
  Package tfrc: the first time that something is heard, without loss, nothing limited.
-/
import Derived.Test.YtnhlachoimlhhaaGreatDoorSetM
import Derived.Test.YtnhlachoimlhhaaGreatDoorEqW
import Derived.Test.YtnhlachoimlhhaaGreatDoorMatW
namespace Go.Proofs.YtnhlachoimlhhaaGreatDoor
open Go.ChangeShapes Go.WideShapes Go.ChangeAt Go.RowKit
set_option linter.unusedVariables false
set_option linter.unusedSimpArgs false

structure TfS where
  size : Nat
  rate : Nat
  rtt : Int
  loss : Nat
  doubled : Int
  started : Bool
  due : Int
  runs : Bool
structure TfS.ok (s : TfS) : Prop where
  b0 : 1 ≤ s.size ∧ s.size ≤ 1400
  b1 : s.rate < 18446744073709551616
  b2 : 0 ≤ s.rtt ∧ s.rtt ≤ 4294967296
  b3 : s.loss ≤ 4294967296
  b4 : 0 ≤ s.doubled ∧ s.doubled ≤ 4611686018427387904
def tfCells (s : TfS) (P : Nat) : Array Value := #[.int .u64 s.size, .int .u64 s.rate, .int .i64 s.rtt, .int .u64 s.loss, .pointer (some ⟨P, 0, none⟩), .int .i64 s.doubled, .bool s.started, .int .i64 s.due, .bool s.runs]
/-- A rate at block C, its set at block P with the row v. -/
structure TfAt (s : TfS) (l : List Pr) (C P : Nat) (v : Value) (w : World) : Prop where
  tf : BlkIs (tfCells s P) 129 C w
  set : SetAt l P v w
  ne : C ≠ P
  ne2 : ∀ g, v.ownBlock = some g → g ≠ C
theorem TfAt.kept {s : TfS} {l : List Pr} {C P : Nat} {v : Value} {S : List Nat} {w w' : World} (h : TfAt s l C P v w) (k : Kept S w w') (h0 : C ∉ S) (h1 : P ∉ S) (h2 : ∀ g, v.ownBlock = some g → g ∉ S) : TfAt s l C P v w' := ⟨h.tf.kept k h0, h.set.kept k h1 h2, h.ne, h.ne2⟩
theorem TfAt.below {s : TfS} {l : List Pr} {C P : Nat} {v : Value} {w w' : World} (h : TfAt s l C P v w) (k : Below w.heap.size w w') : TfAt s l C P v w' := h.kept (Kept.of_below [] k) (by simp) (by simp) (by simp)
theorem TfAt.drewN {s : TfS} {l : List Pr} {C P : Nat} {v : Value} {w : World} (h : TfAt s l C P v w) (n : Nat) : TfAt s l C P v (w.drewN n) := h.below (bel_drewN w n)
def TfS.run (s : TfS) (due : Int) : TfS := { s with due := due, runs := true }
def M.tfDue (wait now : Int) : Int := min (min now 4611686018427387904 + wait) 4611686018427387904
def M.tfInit (size rtt : Nat) : Nat := 64 * min (4 * size) (max (2 * size) 4380) * 1000000 / rtt
def M.tfWait (s : TfS) : Int := max (4 * s.rtt) (128 * s.size * 1000000 / s.rate : Nat)
theorem tfMade_any (s : TfS) (hs : s.ok) (l : List Pr) (C P : Nat) (v : Value) (w : World) (h : TfAt s l C P v w) :
    Calls Tryz.prog 77 #[.pointer (some ⟨C, 0, none⟩)] w fun e w' => e = .returned (.bool true) ∧ w = w' := by
  have c0 : w.cell? ⟨C, 0, none⟩ = some (.int .u64 s.size) := BlkIs.cell h.tf 0
  have hz : ((s.size : Int) != 0) = true := by rw [bne_iff_ne]; have := hs.b0; omega
  clear h hs
  go_enter Tryz.func77, Tryz.ntmps77
  go_wp2
  go_ret
  exact ⟨rfl, rfl⟩
theorem tfWithin_any (n a b : Int) (w : World) : Calls Tryz.prog 175 #[.int .i64 n, .int .i64 a, .int .i64 b] w fun e w' => e = .returned (.int .i64 (max a (min n b))) ∧ w = w' := by
  obtain ⟨E, hE⟩ : ∃ E, (if b < n then b else n) = E := ⟨_, rfl⟩
  obtain ⟨F, hF⟩ : ∃ F, (if a < E then E else a) = F := ⟨_, rfl⟩
  have e : Hid (max a (min n b) = F) := Lib.hid (by rw [← hF, ← hE]; split <;> split <;> omega)
  go_enter Tryz.func175, Tryz.ntmps175
  go_wp2
  go_ret
  exact ⟨by first | rfl | exact M.ret_int e.out.symm, rfl⟩
theorem tfNew_any (s : Nat) (h1 : 1 ≤ s) (h2 : s ≤ 1400) (w : World) : Calls Tryz.prog 76 #[.int .i64 s] w fun e w' => ∃ C P v, e = .returned (.pointer (some ⟨C, 0, none⟩)) ∧ TfAt ⟨s, 64 * s, 0, 0, 0, false, 0, false⟩ [(0, 18446744073709551615)] C P v w' ∧ w.heap.size ≤ C ∧ w.heap.size ≤ P ∧ (∀ g, v.ownBlock = some g → w.heap.size ≤ g) ∧ Below w.heap.size w w' := by
  obtain ⟨R, hR⟩ : ∃ R, 64 * s = R := ⟨_, rfl⟩
  have i1 : (64 : Int) * (s : Int) = (R : Int) := by omega
  rw [hR]
  have h3 : (1 : Int) ≤ (s : Int) := by omega
  have h4 : (s : Int) ≤ 1400 := by omega
  have h5 : ¬ ((s : Int) < 1) := by omega
  have h6 : ¬ ((1400 : Int) < (s : Int)) := by omega
  clear hR
  go_enter Tryz.func76, Tryz.ntmps76
  go_wp2_with (go_at_call 113; refine (rsetNew_any _).mono ?_; rintro e w1 ⟨P, v, rfl, hs1, hp1, hv1, hb1⟩)
  go_ret
  refine ⟨w1.heap.size, P, v, rfl, ⟨BlkIs.new _ _ _, hs1.below (bel_alloc _ _), ?_, ?_⟩, hb1.size, hp1, hv1, bel_trans hb1 (bel_alloc _ _)⟩
  · have := hs1.set.lt; omega
  · intro g hg
    have := (hs1.row.lt g hg).2
    omega
theorem tfRunFor_any (s : TfS) (wait now : Int) (hw : 0 ≤ wait ∧ wait ≤ 4611686018427387903) (hn : -9223372036854775808 ≤ now ∧ now ≤ 9223372036854775807) (l : List Pr) (C P : Nat) (v : Value) (w : World) (h : TfAt s l C P v w) :
    Calls Tryz.prog 174 #[.pointer (some ⟨C, 0, none⟩), .int .i64 wait, .int .i64 now] w fun e w' => e = .returned (.tuple #[]) ∧ TfAt (s.run (M.tfDue wait now)) l C P v w' ∧ Kept [C] w w' := by
  have HH := Lib.hid h
  obtain ⟨E, hE⟩ : ∃ E, (if 4611686018427387904 < now then 4611686018427387904 else now) = E := ⟨_, rfl⟩
  have hE1 : E ≤ 4611686018427387904 ∧ -9223372036854775808 ≤ E := by rw [← hE]; split <;> omega
  obtain ⟨F, hF⟩ : ∃ F, (if 4611686018427387904 < E + wait then 4611686018427387904 else E + wait) = F := ⟨_, rfl⟩
  have HD : Hid (M.tfDue wait now = F) := Lib.hid (by rw [← hF, ← hE]; unfold M.tfDue; split <;> split <;> omega)
  have j1 : min now 4611686018427387904 = E := by rw [← hE]; split <;> omega
  have j2 : min (E + wait) 4611686018427387904 = F := by rw [← hF]; split <;> omega
  rw [HD.out]
  obtain ⟨e1, e2⟩ := hE1
  obtain ⟨w0, w1⟩ := hw
  have c7 : w.cell? ⟨C, 7, none⟩ = some (.int .i64 s.due) := BlkIs.cell h.tf 7
  have c8 : w.cell? ⟨C, 8, none⟩ = some (.bool s.runs) := BlkIs.cell h.tf 8
  have f7 := BlkIs.free h.tf 7
  have f8 := BlkIs.free h.tf 8
  clear h HD
  go_enter Tryz.func174, Tryz.ntmps174
  go_wp2
  go_end0
  have hk : Kept [C] w ((w.setCell ⟨C, 7, none⟩ (.int .i64 F)).setCell ⟨C, 8, none⟩ (.bool true)) := ((Kept.refl _ _).setCell (.inl (by simp)) _).setCell (.inl (by simp)) _
  exact ⟨rfl, ⟨BlkIs.set (BlkIs.set HH.out.tf 7 _) 8 _, HH.out.set.kept hk (by simp; exact fun e => HH.out.ne e.symm) (fun g hg => by simp; exact HH.out.ne2 g hg), HH.out.ne, HH.out.ne2⟩, hk⟩
set_option maxHeartbeats 1000000 in
theorem tfInitial_any (s : TfS) (hs : s.ok) (hr : 1 ≤ s.rtt) (R : Nat) (hR : s.rtt = (R : Int)) (l : List Pr) (C P : Nat) (v : Value) (w : World) (h : TfAt s l C P v w) :
    Calls Tryz.prog 176 #[.pointer (some ⟨C, 0, none⟩)] w fun e w' => e = .returned (.int .u64 (M.tfInit s.size R)) ∧ ∃ n, w' = w.drewN n := by
  have c0 : w.cell? ⟨C, 0, none⟩ = some (.int .u64 s.size) := BlkIs.cell h.tf 0
  have c2 : w.cell? ⟨C, 2, none⟩ = some (.int .i64 s.rtt) := BlkIs.cell h.tf 2
  rw [hR] at c2 hr
  have hb := hs.b0
  have hb2 := hs.b2
  rw [hR] at hb2
  generalize s.size = S at *
  obtain ⟨A, hA⟩ : ∃ A, 4 * S = A := ⟨_, rfl⟩
  obtain ⟨B, hB⟩ : ∃ A, 2 * S = A := ⟨_, rfl⟩
  obtain ⟨D, hD⟩ : ∃ q, max B 4380 = q := ⟨_, rfl⟩
  obtain ⟨E, hE⟩ : ∃ q, min A D = q := ⟨_, rfl⟩
  obtain ⟨F, hF⟩ : ∃ A, 64 * E = A := ⟨_, rfl⟩
  have e : Hid (M.tfInit S R = F * 1000000 / R) := Lib.hid (by unfold M.tfInit; rw [hA, hB, hD, hE, hF])
  obtain ⟨m1, m2, m3, _, _, _⟩ := mxs B 4380 D hD
  have i3 : (if (B : Int) < 4380 then 4380 else (B : Int)) = (D : Int) := m1
  have i3' : (if B < 4380 then 4380 else (B : Int)) = (D : Int) := m2
  have i3'' : max (B : Int) 4380 = (D : Int) := m3
  clear m1 m2 m3
  obtain ⟨i4, i4', i4'', _, hEA, _⟩ := mns A D E hE
  clear hD hE
  have i1 : (4 : Int) * (S : Int) = (A : Int) := by omega
  have i2 : (2 : Int) * (S : Int) = (B : Int) := by omega
  have i5 : (64 : Int) * (E : Int) = (F : Int) := by omega
  have b1 : (A : Int) ≤ 5600 := by omega
  have b2 : (E : Int) ≤ 5600 := by omega
  have b3 : (F : Int) ≤ 358400 := by omega
  have b4 : (S : Int) ≤ 1400 := by omega
  have b5 : (R : Int) ≤ 4294967296 := by omega
  have b6 : F ≤ 358400 := by omega
  have b7 : F < 18446744073709551616 := by omega
  have b8 : R < 18446744073709551616 := by omega
  have b9 : 0 < R := by omega
  obtain ⟨Q, hQ⟩ : ∃ A, F * 1000000 / R = A := ⟨_, rfl⟩
  rw [hQ] at e
  have hqs : Q < 18446744073709551616 := by
    rw [← hQ]
    exact Nat.lt_of_le_of_lt (Nat.le_trans (Nat.div_le_self _ _) (Nat.mul_le_mul_right 1000000 b6)) (by decide)
  have HM : Hid (∀ W, Calls Tryz.prog 182 #[.int .u64 F, .int .u64 1000000, .int .u64 R] W fun e w' => e = .returned (.int .u64 Q) ∧ ∃ k, w' = W.drewN k) := Lib.hid (fun W => fixMulDiv_at F 1000000 R Q b7 (by decide) b8 b9 hQ hqs W)
  rw [e.out]
  clear h hs hA hB hF hQ hR hqs hb hEA b6 b7 b8 b9
  go_enter Tryz.func176, Tryz.ntmps176
  go_wp2
  go_quiet (fail)
  have c2' : (w.drewN nq).cell? ⟨C, 2, none⟩ = some (.int .i64 R) := c2
  have HQ : Hid (∀ m, ∃ q, (w.drewN nq).drewN m = w.drewN q) := Lib.hid (fun m => ⟨_, World.drewN_drewN _ _ _⟩)
  clear c2 c0
  generalize w.drewN nq = W1 at *
  go_wp2_with (go_at_call 182; (with_reducible refine (HM.out _).mono ?_); rintro e w1 ⟨rfl, k1, rfl⟩)
  go_ret
  exact ⟨rfl, HQ.out _⟩
end Go.Proofs.YtnhlachoimlhhaaGreatDoor

namespace Go.Proofs.YtnhlachoimlhhaaGreatDoor
open Go.ChangeShapes Go.WideShapes Go.ChangeAt Go.RowKit
set_option linter.unusedVariables false
set_option linter.unusedSimpArgs false

theorem tfRate_any (s : TfS) (hs : s.ok) (l : List Pr) (C P : Nat) (v : Value) (w : World) (h : TfAt s l C P v w) :
    Calls Tryz.prog 34 #[.pointer (some ⟨C, 0, none⟩)] w fun e w' => e = .returned (.int .u64 s.rate) ∧ w = w' := by
  have HM := Lib.hid (tfMade_any s hs l C P v w h)
  have c1 : w.cell? ⟨C, 1, none⟩ = some (.int .u64 s.rate) := BlkIs.cell h.tf 1
  clear h hs
  go_enter Tryz.func34, Tryz.ntmps34
  go_wp2_with (go_at_call 77; (with_reducible refine HM.out.mono ?_); rintro e w1 ⟨rfl, rfl⟩)
  go_ret
  exact ⟨rfl, rfl⟩
theorem tfRtt_any (s : TfS) (hs : s.ok) (l : List Pr) (C P : Nat) (v : Value) (w : World) (h : TfAt s l C P v w) :
    Calls Tryz.prog 50 #[.pointer (some ⟨C, 0, none⟩)] w fun e w' => e = .returned (.int .i64 s.rtt) ∧ w = w' := by
  have HM := Lib.hid (tfMade_any s hs l C P v w h)
  have c1 : w.cell? ⟨C, 2, none⟩ = some (.int .i64 s.rtt) := BlkIs.cell h.tf 2
  clear h hs
  go_enter Tryz.func50, Tryz.ntmps50
  go_wp2_with (go_at_call 77; (with_reducible refine HM.out.mono ?_); rintro e w1 ⟨rfl, rfl⟩)
  go_ret
  exact ⟨rfl, rfl⟩
theorem tfStart_first (s : TfS) (hs : s.ok) (h0 : s.started = false) (now : Int) (hn : -9223372036854775808 ≤ now ∧ now ≤ 9223372036854775807) (l : List Pr) (C P : Nat) (v : Value) (w : World) (h : TfAt s l C P v w) :
    Calls Tryz.prog 140 #[.pointer (some ⟨C, 0, none⟩), .int .i64 now] w fun e w' => e = .returned (.tuple #[]) ∧ TfAt (({ s with started := true } : TfS).run (M.tfDue 2000000 now)) l C P v w' ∧ Kept [C] w w' := by
  have HM := Lib.hid (tfMade_any s hs l C P v w h)
  have c6 : w.cell? ⟨C, 6, none⟩ = some (.bool s.started) := BlkIs.cell h.tf 6
  have f6 := BlkIs.free h.tf 6
  rw [h0] at c6
  have hk : Hid (Kept [C] w (w.setCell ⟨C, 6, none⟩ (.bool true))) := Lib.hid ((Kept.refl _ _).setCell (.inl (by simp)) _)
  have HT : Hid (TfAt { s with started := true } l C P v (w.setCell ⟨C, 6, none⟩ (.bool true))) := Lib.hid ⟨BlkIs.set h.tf 6 _, h.set.kept hk.out (by simp; exact fun e => h.ne e.symm) (fun g hg => by simp; exact h.ne2 g hg), h.ne, h.ne2⟩
  have HR := Lib.hid (tfRunFor_any { s with started := true } 2000000 now (by decide) hn l C P v _ HT.out)
  clear h hs hn
  go_enter Tryz.func140, Tryz.ntmps140
  go_wp2_with (first
    | (go_at_call 77; (with_reducible refine HM.out.mono ?_); rintro e w1 ⟨rfl, rfl⟩)
    | (go_at_call 174; (with_reducible refine HR.out.mono ?_); rintro e w2 ⟨rfl, ht, hk2⟩))
  go_end0
  exact ⟨rfl, ht, hk.out.trans' hk2⟩
set_option maxHeartbeats 1000000 in
theorem tfRunOn_any (s : TfS) (hs : s.ok) (hr : s.size ≤ s.rate) (now : Int) (hn : -9223372036854775808 ≤ now ∧ now ≤ 9223372036854775807) (l : List Pr) (C P : Nat) (v : Value) (w : World) (h : TfAt s l C P v w) :
    Calls Tryz.prog 178 #[.pointer (some ⟨C, 0, none⟩), .int .i64 now] w fun e w' => e = .returned (.tuple #[]) ∧ TfAt (s.run (M.tfDue (M.tfWait s) now)) l C P v w' ∧ Kept [C] w w' := by
  have c0 : w.cell? ⟨C, 0, none⟩ = some (.int .u64 s.size) := BlkIs.cell h.tf 0
  have c1 : w.cell? ⟨C, 1, none⟩ = some (.int .u64 s.rate) := BlkIs.cell h.tf 1
  have c2 : w.cell? ⟨C, 2, none⟩ = some (.int .i64 s.rtt) := BlkIs.cell h.tf 2
  obtain ⟨b1, b2⟩ := hs.b0
  obtain ⟨r1, r2⟩ := hs.b2
  have hrb := hs.b1
  obtain ⟨A, hA⟩ : ∃ A, 128 * s.size = A := ⟨_, rfl⟩
  have i1 : (128 : Int) * (s.size : Int) = (A : Int) := by omega
  have hA2 : A ≤ 128 * s.size := by omega
  have hA3 : A ≤ 179200 := by omega
  have hA4 : A < 18446744073709551616 := by omega
  have hR0 : 0 < s.rate := by omega
  obtain ⟨Q, hQ⟩ : ∃ Q, A * 1000000 / s.rate = Q := ⟨_, rfl⟩
  have hQ2 : Q ≤ 179200000000 := by
    rw [← hQ]
    exact Nat.le_trans (Nat.div_le_self _ _) (Nat.le_trans (Nat.mul_le_mul_right 1000000 hA3) (by decide))
  have HM : Hid (∀ W, Calls Tryz.prog 182 #[.int .u64 A, .int .u64 1000000, .int .u64 s.rate] W fun e w' => e = .returned (.int .u64 Q) ∧ ∃ k, w' = W.drewN k) := Lib.hid (fun W => fixMulDiv_at A 1000000 s.rate Q hA4 (by decide) hrb hR0 hQ (Nat.lt_of_le_of_lt hQ2 (by decide)) W)
  obtain ⟨X, hX⟩ : ∃ X, max (4 * s.rtt) (Q : Int) = X := ⟨_, rfl⟩
  obtain ⟨x1, x2, x3, x4, x5⟩ := mxi _ _ X hX
  have hXe : M.tfWait s = X := by unfold M.tfWait; rw [hA, hQ, hX]
  have hXb : 0 ≤ X ∧ X ≤ 4611686018427387903 := by omega
  have hQi : (Q : Int) ≤ 179200000000 := by omega
  have HH := Lib.hid h
  have HR : Hid (∀ W, TfAt s l C P v W → Calls Tryz.prog 174 #[.pointer (some ⟨C, 0, none⟩), .int .i64 X, .int .i64 now] W fun e w' => e = .returned (.tuple #[]) ∧ TfAt (s.run (M.tfDue X now)) l C P v w' ∧ Kept [C] W w') := Lib.hid (fun W hW => tfRunFor_any s X now hXb hn l C P v W hW)
  rw [hXe]
  clear h hs hA hQ hX hXe hA2 hA3 hA4 hR0 hrb hn hr
  go_enter Tryz.func178, Tryz.ntmps178
  go_wp2
  go_quiet ((go_at_call 182; exact Calls.quiet_of (HM.out _)))
  have c2' : (w.drewN nq).cell? ⟨C, 2, none⟩ = some (.int .i64 s.rtt) := c2
  have HT : Hid (TfAt s l C P v (w.drewN nq)) := Lib.hid (HH.out.drewN nq)
  have HK : Hid (Kept [C] w (w.drewN nq)) := Lib.hid ((Kept.refl _ _).drewN nq)
  clear c0 c1 c2
  generalize w.drewN nq = W1 at *
  go_wp2_with (go_at_call 174; (with_reducible refine (HR.out _ HT.out).mono ?_); rintro e w2 ⟨rfl, ht, hk2⟩)
  go_end0
  exact ⟨rfl, ht, HK.out.trans' hk2⟩
end Go.Proofs.YtnhlachoimlhhaaGreatDoor

namespace Go.Proofs.YtnhlachoimlhhaaGreatDoor
open Go.ChangeShapes Go.WideShapes Go.ChangeAt Go.RowKit
set_option linter.unusedVariables false
set_option linter.unusedSimpArgs false

theorem M.maxPr_lt (l : List Pr) (h : ∀ p ∈ l, p.2 < 18446744073709551616) : M.maxPr l < 18446744073709551616 := by
  suffices H : ∀ (l : List Pr) (m : Nat), m < 18446744073709551616 → (∀ p ∈ l, p.2 < 18446744073709551616) → l.foldl (fun m p => max m p.2) m < 18446744073709551616 by exact H l 0 (by decide) h
  intro l
  induction l with
  | nil => intro m hm _; exact hm
  | cons p l ih =>
    intro m hm hp
    rw [List.foldl_cons]
    refine ih _ ?_ (fun q hq => hp q (by simp [hq]))
    have := hp p (by simp)
    omega
set_option maxHeartbeats 1000000 in
/-- What was told is taken in; twice the greatest. -/
theorem tfLimit_upd (s : TfS) (hs : s.ok) (l : List Pr) (hl : l.length ≤ 7) (h0 : 0 < l.length) (hsm : ∀ p ∈ l, p.2 < 18446744073709551616) (now : Int) (x p : Nat) (hx : x < 18446744073709551616)
    (hlast : (l.getD (l.length - 1) (0, 0)).1 ≤ max 0 (min now 4611686018427387904))
    (hall : ∀ i, i < l.length → max 0 (min now 4611686018427387904) - 2 * max 0 (min s.rtt 1099511627776) ≤ (l.getD i (0, 0)).1) (C P : Nat) (v : Value) (w : World) (h : TfAt s l C P v w) :
    Calls Tryz.prog 177 #[.pointer (some ⟨C, 0, none⟩), .int .i64 now, .int .u64 x, .int .u64 p, .bool false] w fun e w' => e = .returned (.int .u64 (M.mulT 2 (M.maxPr (l ++ [(max 0 (min now 4611686018427387904), x)])))) ∧
      ∃ v', TfAt s (l ++ [(max 0 (min now 4611686018427387904), x)]) C P v' w' ∧ Kept (P :: own v) w w' ∧ (v'.ownBlock = v.ownBlock ∨ ∃ g, v'.ownBlock = some g ∧ w.heap.size ≤ g) := by
  have c2 : w.cell? ⟨C, 2, none⟩ = some (.int .i64 s.rtt) := BlkIs.cell h.tf 2
  have c4 : w.cell? ⟨C, 4, none⟩ = some (.pointer (some ⟨P, 0, none⟩)) := BlkIs.cell h.tf 4
  have HH := Lib.hid h
  have HU : Hid (∀ W, SetAt l P v W → _) := Lib.hid (fun W hW => rsetUpdate_keep l hl h0 x now s.rtt hlast hall P v W hW)
  obtain ⟨q, hq⟩ : ∃ q, (max 0 (min now 4611686018427387904), x) = q := ⟨_, rfl⟩
  rw [hq] at HU ⊢
  have hM : M.maxPr (l ++ [q]) < 18446744073709551616 := M.maxPr_lt _ (fun p hp => by
    rcases List.mem_append.1 hp with h1 | h1
    · exact hsm p h1
    · simp at h1; subst h1; rw [← hq]; exact hx)
  have HMX : Hid (∀ P v W, SetAt (l ++ [q]) P v W → _) := Lib.hid (fun P v W hW => rsetMax_any (l ++ [q]) (by rw [List.length_append]; simp; omega) (by rw [List.length_append]; simp) P v W hW)
  have HMU : Hid (∀ W, Calls Tryz.prog 88 #[.int .u64 2, .int .u64 (M.maxPr (l ++ [q]))] W fun e w' => e = .returned (.int .u64 (M.mulT 2 (M.maxPr (l ++ [q])))) ∧ W = w') := Lib.hid (fun W => fixMul_any 2 _ (by decide) hM W)
  have HNC : Hid (C ∉ P :: own v) := Lib.hid (by
    intro hm
    rcases List.mem_cons.1 hm with h1 | h1
    · exact h.ne h1
    · unfold own at h1
      cases hv : v.ownBlock with
      | none => rw [hv] at h1; simp at h1
      | some g => rw [hv] at h1; simp at h1; exact h.ne2 g hv h1.symm)
  generalize M.mulT 2 (M.maxPr (l ++ [q])) = R at *
  generalize M.maxPr (l ++ [q]) = m at *
  clear h hs hlast hall hsm
  go_enter Tryz.func177, Tryz.ntmps177
  go_wp2
  have HDR : Hid (∀ n, SetAt l P v (w.drewN n)) := Lib.hid (fun n => HH.out.set.drewN n)
  have HD1 : Hid (SetAt l P v w.drew) := Lib.hid ⟨HH.out.set.set, HH.out.set.row⟩
  go_region_with ((go_at_call 199; (with_reducible refine (HU.out _ ?_).mono ?_); (exact HD1.out); rintro e W2 ⟨rfl, g, c, hs2, hk2, hat2⟩; have HT2 : Hid (BlkIs (tfCells s P) 129 C W2) := Lib.hid (BlkIs.kept (BlkIs.drewN HH.out.tf 1) hk2 HNC.out); have c4' : W2.cell? ⟨C, 4, none⟩ = some (.pointer (some ⟨P, 0, none⟩)) := BlkIs.cell HT2.out 4))
  all_goals
    go_wp2_with (first
      | (go_at_call 150; (with_reducible refine (HMX.out _ _ _ hs2).mono ?_); rintro e W3 ⟨rfl, hb3⟩)
      | (go_at_call 88; (with_reducible refine (HMU.out _).mono ?_); rintro e W4 ⟨rfl, rfl⟩))
    go_ret
    have hk3 : Kept (P :: own v) w W3 := ((Kept.refl (P :: own v) w).drew.trans' hk2).trans' (Kept.of_below _ hb3)
    refine ⟨rfl, _, ⟨HT2.out.below hb3, hs2.below hb3, HH.out.ne, ?_⟩, hk3, ?_⟩
    · intro q hq
      have hgq : g = q := by simpa [Value.ownBlock] using hq
      subst hgq
      rcases hat2 with h1 | h1
      · exact HH.out.ne2 g h1
      · have := HH.out.tf.lt; have h3 : w.heap.size ≤ g := h1; omega
    · rcases hat2 with h1 | h1
      · exact .inl (by rw [h1]; rfl)
      · exact .inr ⟨g, rfl, h1⟩
end Go.Proofs.YtnhlachoimlhhaaGreatDoor

namespace Go.Proofs.YtnhlachoimlhhaaGreatDoor
open Go.ChangeShapes Go.WideShapes Go.ChangeAt Go.RowKit
set_option linter.unusedVariables false
set_option linter.unusedSimpArgs false

theorem M.tfInit_bd (size R : Nat) (h : size ≤ 1400) : M.tfInit size R < 18446744073709551616 := by
  have h1 : 64 * min (4 * size) (max (2 * size) 4380) ≤ 358400 := by
    have : min (4 * size) (max (2 * size) 4380) ≤ 4 * size := Nat.min_le_left _ _
    generalize min (4 * size) (max (2 * size) 4380) = z at *
    omega
  exact Nat.lt_of_le_of_lt (Nat.le_trans (Nat.div_le_self _ _) (Nat.mul_le_mul_right 1000000 h1)) (by decide)
def TfS.first0 (s : TfS) (N : Int) (R : Nat) : TfS := { s with rate := max (M.tfInit s.size R) s.size, rtt := R, loss := 0, doubled := N }
set_option maxHeartbeats 4000000 in
set_option maxRecDepth 100000 in
theorem tfHear_first0 (s : TfS) (hs : s.ok) (hr : s.rtt = 0) (now sample : Int) (x : Nat) (hx : x < 18446744073709551616) (N : Int) (hN : max 0 (min now 4611686018427387904) = N) (R : Nat) (hR : max 1 (min sample 4294967296) = (R : Int))
    (l : List Pr) (hl : l.length ≤ 7) (h0 : 0 < l.length) (hsm : ∀ p ∈ l, p.2 < 18446744073709551616) (hlast : (l.getD (l.length - 1) (0, 0)).1 ≤ N) (hall : ∀ i, i < l.length → N - 2 * R ≤ (l.getD i (0, 0)).1) (C P : Nat) (v : Value) (w : World) (h : TfAt s l C P v w) :
    Calls Tryz.prog 141 #[.pointer (some ⟨C, 0, none⟩), .int .i64 now, .int .i64 sample, .int .u64 x, .int .u64 0, .bool false] w fun e w' => e = .returned (.tuple #[]) ∧
      ∃ v', TfAt ((s.first0 N R).run (M.tfDue (M.tfWait (s.first0 N R)) N)) (l ++ [(N, min x 1125899906842624)]) C P v' w' ∧ Kept (C :: P :: own v) w w' ∧ (v'.ownBlock = v.ownBlock ∨ ∃ g, v'.ownBlock = some g ∧ w.heap.size ≤ g) := by
  have HM := Lib.hid (tfMade_any s hs l C P v w h)
  have HW1 := Lib.hid (fun W => tfWithin_any now 0 4611686018427387904 W)
  have HW2 := Lib.hid (fun W => tfWithin_any sample 1 4294967296 W)
  rw [hN] at HW1
  rw [hR] at HW2
  have hNb : 0 ≤ N ∧ N ≤ 4611686018427387904 := by omega
  have hRb : 1 ≤ R ∧ R ≤ 4294967296 := by omega
  obtain ⟨b1, b2⟩ := hs.b0
  obtain ⟨X, hX⟩ : ∃ X, min x 1125899906842624 = X := ⟨_, rfl⟩
  have hXb : X < 18446744073709551616 := by rw [← hX]; exact Nat.lt_of_le_of_lt (Nat.min_le_left _ _) hx
  obtain ⟨x1, x2, x3, _⟩ := mns x 1125899906842624 X hX
  have x1' : (if (1125899906842624 : Int) < (x : Int) then 1125899906842624 else (x : Int)) = (X : Int) := x1
  have x2' : (if 1125899906842624 < x then 1125899906842624 else (x : Int)) = (X : Int) := x2
  have x3' : min (x : Int) 1125899906842624 = (X : Int) := x3
  rw [hX]
  have m0 : min (0 : Int) 4294967296 = 0 := by decide
  have c2 : w.cell? ⟨C, 2, none⟩ = some (.int .i64 0) := by rw [← hr]; exact BlkIs.cell h.tf 2
  have f2 := BlkIs.free h.tf 2
  -- the rate at the first Hear
  have hkA : Hid (Kept [C] w (w.setCell ⟨C, 2, none⟩ (.int .i64 R))) := Lib.hid ((Kept.refl _ _).setCell (.inl (by simp)) _)
  have HA : Hid (TfAt { s with rtt := R } l C P v (w.setCell ⟨C, 2, none⟩ (.int .i64 R))) := Lib.hid ⟨BlkIs.set h.tf 2 _, h.set.kept hkA.out (by simp; exact fun e => h.ne e.symm) (fun g hg => by simp; exact h.ne2 g hg), h.ne, h.ne2⟩
  have hokA : ({ s with rtt := R } : TfS).ok := ⟨hs.b0, hs.b1, by simp only; omega, hs.b3, hs.b4⟩
  have HIN := Lib.hid (tfInitial_any { s with rtt := R } hokA (by simp only; omega) R rfl l C P v _ HA.out)
  have hIb := M.tfInit_bd s.size R b2
  obtain ⟨I, hI⟩ : ∃ I, M.tfInit s.size R = I := ⟨_, rfl⟩
  simp only at HIN
  rw [hI] at HIN hIb
  have HNC : Hid (C ∉ P :: own v) := Lib.hid (by
    intro hm
    rcases List.mem_cons.1 hm with h1 | h1
    · exact h.ne h1
    · unfold own at h1
      cases hv : v.ownBlock with
      | none => rw [hv] at h1; simp at h1
      | some g => rw [hv] at h1; simp at h1; exact h.ne2 g hv h1.symm)
  have HNE : Hid (∀ v' : Value, (v'.ownBlock = v.ownBlock ∨ ∃ g, v'.ownBlock = some g ∧ w.heap.size ≤ g) → ∀ g, v'.ownBlock = some g → g ≠ C) := Lib.hid (fun v' hv' g hg => by
    rcases hv' with h1 | ⟨q, h1, h2⟩
    · exact h.ne2 g (by rw [← h1]; exact hg)
    · rw [h1] at hg; cases hg; have := h.tf.lt; omega)
  have HCP := Lib.hid h.ne
  have HST := Lib.hid hs
  clear h hs hr
  go_enter Tryz.func141, Tryz.ntmps141
  go_upto_region 5 with (first
    | (go_at_call 77; (with_reducible refine HM.out.mono ?_); rintro e w1 ⟨rfl, rfl⟩)
    | (go_at_call 175; (with_reducible refine (HW1.out _).mono ?_); rintro e w1 ⟨rfl, rfl⟩)
    | (go_at_call 175; (with_reducible refine (HW2.out _).mono ?_); rintro e w1 ⟨rfl, rfl⟩))
  generalize w.setCell ⟨C, 2, none⟩ (.int .i64 R) = W1 at *
  have d1 : ∀ n, (W1.drewN n).cell? ⟨C, 1, none⟩ = some (.int .u64 s.rate) := fun n => BlkIs.cell HA.out.tf 1
  have d5 : ∀ n, (W1.drewN n).cell? ⟨C, 5, none⟩ = some (.int .i64 s.doubled) := fun n => BlkIs.cell HA.out.tf 5
  have e1 : ∀ n, (W1.drewN n).frozen? ⟨C, 1, none⟩ = false := fun n => BlkIs.free HA.out.tf 1
  have e5 : ∀ n, (W1.drewN n).frozen? ⟨C, 5, none⟩ = false := fun n => BlkIs.free HA.out.tf 5
  clear c2 f2 HW1 HW2 HM
  go_upto_region 7 with (go_at_call 176; (with_reducible refine HIN.out.mono ?_); rintro e w1 ⟨rfl, n1, rfl⟩)
  obtain ⟨W2, hW2⟩ : ∃ W2, ((W1.drewN n1).setCell ⟨C, 1, none⟩ (.int .u64 I)).setCell ⟨C, 5, none⟩ (.int .i64 N) = W2 := ⟨_, rfl⟩
  have hkB : Hid (Kept [C] w W2) := Lib.hid (by rw [← hW2]; exact ((hkA.out.drewN n1).setCell (.inl (by simp)) _).setCell (.inl (by simp)) _)
  have HB : Hid (TfAt { s with rtt := R, rate := I, doubled := N } l C P v W2) := Lib.hid (by
    rw [← hW2]
    have hk : Kept [C] W1 (((W1.drewN n1).setCell ⟨C, 1, none⟩ (.int .u64 I)).setCell ⟨C, 5, none⟩ (.int .i64 N)) := (((Kept.refl _ _).drewN n1).setCell (.inl (by simp)) _).setCell (.inl (by simp)) _
    exact ⟨BlkIs.set (BlkIs.set (BlkIs.drewN HA.out.tf n1) 1 _) 5 _, HA.out.set.kept hk (by simp; exact fun e => HCP.out e.symm) (fun g hg => by simp; exact HA.out.ne2 g hg), HA.out.ne, HA.out.ne2⟩)
  have HLIM := Lib.hid (tfLimit_upd { s with rtt := R, rate := I, doubled := N } ⟨HST.out.b0, hIb, by simp only; omega, HST.out.b3, by simp only; omega⟩ l hl h0 hsm N X 0 hXb (by rw [show max 0 (min N 4611686018427387904) = N by omega]; exact hlast) (by
    rw [show max 0 (min N 4611686018427387904) = N by omega]
    intro i hi
    have := hall i hi
    simp only
    rw [show max 0 (min (R : Int) 1099511627776) = (R : Int) by omega]
    exact this) C P v W2 HB.out)
  rw [show max 0 (min N 4611686018427387904) = N by omega] at HLIM
  rw [hW2]
  generalize M.mulT 2 (M.maxPr (l ++ [(N, X)])) = LIM at *
  have HLIM2 := Lib.hid (show Calls Tryz.prog 177 #[.pointer (some ⟨C, 0, none⟩), .int .i64 N, .int .u64 X, .int .u64 0, .bool false] W2 _ from HLIM.out)
  clear hW2 d1 d5 e1 e5 HIN hlast hall HA
  go_upto_region 8 with (go_at_call 177; (with_reducible refine HLIM2.out.mono ?_); rintro e W3 ⟨rfl, v3, ht3, hk3, hv3⟩)
  have HV3 : Hid (v3.ownBlock = v.ownBlock ∨ ∃ g, v3.ownBlock = some g ∧ w.heap.size ≤ g) := Lib.hid (by
    rcases hv3 with h1 | ⟨g, h1, h2⟩
    · exact .inl h1
    · exact .inr ⟨g, h1, Nat.le_trans hkB.out.size h2⟩)
  have hkC : Hid (Kept (C :: P :: own v) w W3) := Lib.hid ((hkB.out.more (fun x hx => by simp at hx; subst hx; simp)).trans' (hk3.more (fun x hx => by simp; right; simpa using hx)))
  have HT3 := Lib.hid ht3
  have g3 : W3.cell? ⟨C, 3, none⟩ = some (.int .u64 s.loss) := BlkIs.cell ht3.tf 3
  have k3 := BlkIs.free ht3.tf 3
  clear ht3 hk3 hv3 HLIM HLIM2
  go_upto_region 11 with fail
  obtain ⟨W4, hW4⟩ : ∃ W4, W3.setCell ⟨C, 3, none⟩ (.int .u64 0) = W4 := ⟨_, rfl⟩
  have hk34 : Kept [C] W3 W4 := by rw [← hW4]; exact (Kept.refl _ _).setCell (.inl (by simp)) _
  have HD : Hid (TfAt { s with rtt := R, rate := I, doubled := N, loss := 0 } (l ++ [(N, X)]) C P v3 W4) := Lib.hid (by
    refine ⟨?_, HT3.out.set.kept hk34 (by simp; exact fun e => HCP.out e.symm) (fun g hg => by simp; exact HT3.out.ne2 g hg), HT3.out.ne, HT3.out.ne2⟩
    rw [← hW4]
    exact BlkIs.set HT3.out.tf 3 _)
  have hkD : Hid (Kept (C :: P :: own v) w W4) := Lib.hid (hkC.out.trans' (hk34.more (fun x hx => by simp at hx; subst hx; simp)))
  rw [hW4]
  clear hW4 hk34 g3 k3
  have q2 : W4.cell? ⟨C, 2, none⟩ = some (.int .i64 R) := BlkIs.cell HD.out.tf 2
  have q5 : W4.cell? ⟨C, 5, none⟩ = some (.int .i64 N) := BlkIs.cell HD.out.tf 5
  have hw1 : IntKind.i64.wrap (N - N) = 0 := by rw [Int.sub_self]; rfl
  have hz0 : N - N = 0 := Int.sub_self N
  have hdec : decide ((R : Int) ≤ 0) = false := decide_eq_false (by omega)
  go_quiet (fail)
  have HE : Hid (TfAt { s with rtt := R, rate := I, doubled := N, loss := 0 } (l ++ [(N, X)]) C P v3 (W4.drewN nq)) := Lib.hid (HD.out.drewN nq)
  have hkE : Hid (Kept (C :: P :: own v) w (W4.drewN nq)) := Lib.hid (hkD.out.drewN nq)
  clear q2 q5 hw1 hz0
  generalize W4.drewN nq = W5 at *
  have q0 : W5.cell? ⟨C, 0, none⟩ = some (.int .u64 s.size) := BlkIs.cell HE.out.tf 0
  have q1 : W5.cell? ⟨C, 1, none⟩ = some (.int .u64 I) := BlkIs.cell HE.out.tf 1
  have k1 := BlkIs.free HE.out.tf 1
  obtain ⟨J, hJ⟩ : ∃ J, max I s.size = J := ⟨_, rfl⟩
  obtain ⟨j1, j2, j3, _, j5, j6⟩ := mxs I s.size J hJ
  have HF : Hid (TfAt (s.first0 N R) (l ++ [(N, X)]) C P v3 ((W5.setCell ⟨C, 1, none⟩ (.int .u64 J)).drew) ∧ Kept (C :: P :: own v) w ((W5.setCell ⟨C, 1, none⟩ (.int .u64 J)).drew)) := Lib.hid (by
    have hk : Kept [C] W5 ((W5.setCell ⟨C, 1, none⟩ (.int .u64 J)).drew) := ((Kept.refl _ _).setCell (.inl (by simp)) _).drew
    refine ⟨⟨?_, HE.out.set.kept hk (by simp; exact fun e => HCP.out e.symm) (fun g hg => by simp; exact HE.out.ne2 g hg), HE.out.ne, HE.out.ne2⟩, hkE.out.trans' (hk.more (fun x hx => by simp at hx; subst hx; simp))⟩
    unfold TfS.first0
    rw [hI, hJ]
    exact BlkIs.set HE.out.tf 1 _)
  have HRUN := Lib.hid (tfRunOn_any (s.first0 N R) ⟨HST.out.b0, by unfold TfS.first0; simp only; rw [hI, hJ]; have := HST.out.b0; omega, by unfold TfS.first0; simp only; omega, by unfold TfS.first0; simp only; omega, by unfold TfS.first0; simp only; omega⟩ (by unfold TfS.first0; simp only; rw [hI, hJ]; exact j6) N (by omega) (l ++ [(N, X)]) C P v3 _ HF.out.1)
  clear hJ hI j5 j6
  go_wp2
  go_region_with (fail)
  all_goals
    go_wp2_with (go_at_call 178; (with_reducible refine HRUN.out.mono ?_); rintro e W7 ⟨rfl, ht7, hk7⟩)
    go_end0
    exact ⟨rfl, v3, ht7, HF.out.2.trans' (hk7.more (fun x hx => by simp at hx; subst hx; simp)), HV3.out⟩
end Go.Proofs.YtnhlachoimlhhaaGreatDoor
