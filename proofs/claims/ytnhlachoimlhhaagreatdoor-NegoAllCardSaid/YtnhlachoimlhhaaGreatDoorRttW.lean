/-
  Plain mathematics of times: samples, doublings, how long one waits. Nothing of the program is named here.
  Package rtt: what lies behind its pointer; its calls.
-/
import Derived.Test.YtnhlachoimlhhaaGreatDoorBlk
import Derived.Test.YtnhlachoimlhhaaGreatDoorMatW
import Derived.Test.YtnhlachoimlhhaaGreatDoorChecked
import Derived.WalkKit
import Derived.ProofKit
import Derived.LoopTactic
import Derived.Outline
import Derived.RegionTactic
import Derived.Deep.RegionWith
import Derived.Deep.RegionHeld3
import Derived.BigQuiet
import Derived.Deep.QuietTactic
import Derived.Deep.Cut
import Derived.Deep.DeepCutAuto
import Derived.Laws.NewBlocks
namespace Go.Proofs.YtnhlachoimlhhaaGreatDoor
set_option linter.unusedVariables false

/-- What is known of a time: is it, smoothed, the spread, what doublings made of it. -/
structure RttS where
  known : Bool
  smooth : Int
  spread : Int
  backed : Int
namespace M
def rtD (d : Int) : Int := min (max d 0) 64000000
def rtApart (a b : Int) : Int := max (a - b) (b - a)
def rtBase (known : Bool) (smooth spread : Int) : Int := if known = true then min (max (smooth + max (4 * spread) 1000) 200000) 64000000 else 3000000
def rtDbl (n : Int) : Int := min (2 * n) 64000000
def rtDbls : Nat → Int → Int
  | 0, n => n
  | k + 1, n => rtDbl (rtDbls k n)
theorem rtD_bd (d : Int) : 0 ≤ rtD d ∧ rtD d ≤ 64000000 := by unfold rtD; omega
theorem rtBase_bd (k : Bool) (s v : Int) : 200000 ≤ rtBase k s v ∧ rtBase k s v ≤ 64000000 := by
  unfold rtBase
  split <;> omega
theorem rtDbl_bd (n : Int) (h : 200000 ≤ n) : 200000 ≤ rtDbl n ∧ rtDbl n ≤ 64000000 := by unfold rtDbl; omega
end M
namespace RttS
def zero : RttS := ⟨false, 0, 0, 0⟩
def sample (s : RttS) (d : Int) : RttS :=
  if s.known = true then ⟨true, (7 * s.smooth + M.rtD d) / 8, (3 * s.spread + M.rtApart s.smooth (M.rtD d)) / 4, 0⟩ else ⟨true, M.rtD d, M.rtD d / 2, 0⟩
def rto (s : RttS) : Int := if s.backed = 0 then M.rtBase s.known s.smooth s.spread else s.backed
def back (s : RttS) : RttS := ⟨s.known, s.smooth, s.spread, M.rtDbl s.rto⟩
structure ok (s : RttS) : Prop where
  s0 : 0 ≤ s.smooth ∧ s.smooth ≤ 64000000
  s1 : 0 ≤ s.spread ∧ s.spread ≤ 64000000
  s2 : s.backed = 0 ∨ (200000 ≤ s.backed ∧ s.backed ≤ 64000000)
theorem ok_zero : zero.ok := ⟨by decide, by decide, .inl rfl⟩
theorem ok.sample {s : RttS} (h : s.ok) (d : Int) : (s.sample d).ok := by
  have hd := M.rtD_bd d
  obtain ⟨h0, h1, _⟩ := h
  unfold RttS.sample M.rtApart
  split
  · exact ⟨by simp only; omega, by simp only; omega, .inl rfl⟩
  · exact ⟨by simp only; omega, by simp only; omega, .inl rfl⟩
theorem ok.rto {s : RttS} (h : s.ok) : 200000 ≤ s.rto ∧ s.rto ≤ 64000000 := by
  have hb := M.rtBase_bd s.known s.smooth s.spread
  unfold RttS.rto
  rcases h.s2 with h2 | h2
  · rw [if_pos h2]; exact hb
  · rw [if_neg (by omega)]; exact h2
theorem ok.back {s : RttS} (h : s.ok) : s.back.ok := ⟨h.s0, h.s1, .inr (M.rtDbl_bd _ h.rto.1)⟩
theorem rto_back {s : RttS} (h : s.ok) : s.back.rto = M.rtDbl s.rto := by
  have := M.rtDbl_bd _ h.rto.1
  show (if M.rtDbl s.rto = 0 then _ else M.rtDbl s.rto) = _
  rw [if_neg (by omega)]
/-- As the document's: so many doublings since the last sample. -/
structure likeB (s : RttS) (known : Bool) (smooth spread : Int) (k : Nat) : Prop where
  e0 : known = s.known
  e1 : smooth = s.smooth
  e2 : spread = s.spread
  e3 : s.rto = M.rtDbls k (M.rtBase s.known s.smooth s.spread)
theorem likeB.back {s : RttS} {n : Bool} {a b : Int} {k : Nat} (h : s.likeB n a b k) (ho : s.ok) : s.back.likeB n a b (k + 1) :=
  ⟨h.e0, h.e1, h.e2, by rw [rto_back ho, h.e3]; rfl⟩
end RttS
end Go.Proofs.YtnhlachoimlhhaaGreatDoor

namespace Go.Proofs.YtnhlachoimlhhaaGreatDoor
open Go.ChangeShapes Go.WideShapes Go.ChangeAt Go.RowKit
set_option linter.unusedVariables false
set_option linter.unusedSimpArgs false

def rttCells (s : RttS) : Array Value := #[.bool s.known, .int .i64 s.smooth, .int .i64 s.spread, .int .i64 s.backed]
def RttBlk (s : RttS) (C : Nat) (w : World) : Prop := BlkIs (rttCells s) 191 C w
theorem RttBlk.at_ {s : RttS} {C : Nat} {w : World} (h : RttBlk s C w) : (w.cell? ⟨C, 0, none⟩ = some (.bool s.known) ∧ w.cell? ⟨C, 1, none⟩ = some (.int .i64 s.smooth) ∧ w.cell? ⟨C, 2, none⟩ = some (.int .i64 s.spread) ∧ w.cell? ⟨C, 3, none⟩ = some (.int .i64 s.backed)) ∧
    w.frozen? ⟨C, 0, none⟩ = false ∧ w.frozen? ⟨C, 1, none⟩ = false ∧ w.frozen? ⟨C, 2, none⟩ = false ∧ w.frozen? ⟨C, 3, none⟩ = false :=
  ⟨⟨BlkIs.cell h 0, BlkIs.cell h 1, BlkIs.cell h 2, BlkIs.cell h 3⟩, BlkIs.free h 0, BlkIs.free h 1, BlkIs.free h 2, BlkIs.free h 3⟩

theorem rttNew_any (w : World) : Calls Tryz.prog 112 #[] w fun e w' => e = .returned (.pointer (some ⟨w.heap.size, 0, none⟩)) ∧ w' = w.alloc (.cells (rttCells RttS.zero) 191) := by
  go_enter Tryz.func112, Tryz.ntmps112
  go_wp2
  go_ret
  exact ⟨rfl, rfl⟩
theorem apart_any (a b : Int) (ha : 0 ≤ a ∧ a ≤ 64000000) (hb : 0 ≤ b ∧ b ≤ 64000000) (w : World) : Calls Tryz.prog 172 #[.int .i64 a, .int .i64 b] w fun e w' => e = .returned (.int .i64 (M.rtApart a b)) ∧ w = w' := by
  obtain ⟨a0, a1⟩ := ha
  obtain ⟨b0, b1⟩ := hb
  obtain ⟨X, hX⟩ : ∃ X, (if a - b < b - a then b - a else a - b) = X := ⟨_, rfl⟩
  have HX : Hid (M.rtApart a b = X) := Lib.hid (by rw [← hX]; unfold M.rtApart; split <;> omega)
  go_enter Tryz.func172, Tryz.ntmps172
  go_wp2
  go_ret
  exact ⟨M.ret_int HX.out.symm, rfl⟩
set_option maxHeartbeats 1000000 in
theorem rttSample_any (s : RttS) (hs : s.ok) (d : Int) (C : Nat) (w : World) (h : RttBlk s C w) :
    Calls Tryz.prog 136 #[.pointer (some ⟨C, 0, none⟩), .int .i64 d] w fun e w' => e = .returned (.tuple #[]) ∧ RttBlk (s.sample d) C w' ∧ Kept [C] w w' := by
  have HB := Lib.hid h
  obtain ⟨⟨c0, c1, c2, c3⟩, f0, f1, f2, f3⟩ := h.at_
  obtain ⟨D, hD⟩ : ∃ D, M.rtD d = D := ⟨_, rfl⟩
  have hD2 := M.rtD_bd d
  rw [hD] at hD2
  obtain ⟨d0, d1⟩ := hD2
  have HD := Lib.hid hD
  obtain ⟨E, hE⟩ : ∃ E, (if d < 0 then 0 else d) = E := ⟨_, rfl⟩
  have hE2 : (if 64000000 < E then 64000000 else E) = D := by rw [← hE, ← hD]; unfold M.rtD; split <;> split <;> omega
  obtain ⟨⟨s0, s1⟩, ⟨v0, v1⟩, _⟩ := hs
  obtain ⟨k, m, v, b⟩ := s
  simp only at c0 c1 c2 c3 s0 s1 v0 v1
  clear h hD
  cases k with
  | false =>
    have e : Hid (rttCells ((⟨false, m, v, b⟩ : RttS).sample d) = ((((rttCells ⟨false, m, v, b⟩).setIfInBounds 3 (.int .i64 0)).setIfInBounds 0 (.bool true)).setIfInBounds 1 (.int .i64 D)).setIfInBounds 2 (.int .i64 (D / 2))) := Lib.hid (by
      unfold RttS.sample; rw [if_neg (by simp)]; rw [HD.out]; rfl)
    go_enter Tryz.func136, Tryz.ntmps136
    go_wp2
    refine bodyPost_ret (results_none rfl _ _ _) rfl ?_
    refine ⟨rfl, ?_, ((((Kept.refl _ _).setCell (.inl (by simp)) _).setCell (.inl (by simp)) _).setCell (.inl (by simp)) _).setCell (.inl (by simp)) _⟩
    unfold RttBlk
    rw [e.out]
    exact BlkIs.set (BlkIs.set (BlkIs.set (BlkIs.set HB.out 3 _) 0 _) 1 _) 2 _
  | true =>
    have HA := Lib.hid (fun W => apart_any m D ⟨s0, s1⟩ ⟨d0, d1⟩ W)
    have hP : 0 ≤ M.rtApart m D ∧ M.rtApart m D ≤ 64000000 := by unfold M.rtApart; omega
    have e : Hid (rttCells ((⟨true, m, v, b⟩ : RttS).sample d) = ((((rttCells ⟨true, m, v, b⟩).setIfInBounds 3 (.int .i64 0)).setIfInBounds 2 (.int .i64 ((3 * v + M.rtApart m D) / 4))).setIfInBounds 1 (.int .i64 ((7 * m + D) / 8)))) := Lib.hid (by
      unfold RttS.sample; rw [if_pos rfl]; rw [HD.out]; rfl)
    generalize M.rtApart m D = P at *
    obtain ⟨p0, p1⟩ := hP
    go_enter Tryz.func136, Tryz.ntmps136
    go_wp2
    go_region_with (go_at_call 172; (with_reducible refine (HA.out _).mono ?_); rintro e w1 ⟨rfl, rfl⟩)
    all_goals go_wp2
    all_goals
      go_end0
      refine ⟨rfl, ?_, ((((Kept.refl _ _).setCell (.inl (by simp)) _).setCell (.inl (by simp)) _).setCell (.inl (by simp)) _).drew⟩
      unfold RttBlk
      rw [e.out]
      exact BlkIs.set (BlkIs.set (BlkIs.set HB.out 3 _) 2 _) 1 _
set_option maxHeartbeats 1000000 in
theorem rttRto_any (s : RttS) (hs : s.ok) (C : Nat) (w : World) (h : RttBlk s C w) :
    Calls Tryz.prog 147 #[.pointer (some ⟨C, 0, none⟩)] w fun e w' => e = .returned (.int .i64 s.rto) ∧ ∃ n, w' = w.drewN n := by
  obtain ⟨⟨c0, c1, c2, c3⟩, f0, f1, f2, f3⟩ := h.at_
  obtain ⟨⟨s0, s1⟩, ⟨v0, v1⟩, _⟩ := hs
  obtain ⟨k, m, v, b⟩ := s
  simp only at c0 c1 c2 c3 s0 s1 v0 v1
  clear h f0 f1 f2 f3
  by_cases hb : b = 0
  · subst hb
    cases k with
    | false =>
      go_enter Tryz.func147, Tryz.ntmps147
      go_wp2
      go_ret
      exact ⟨rfl, 0, rfl⟩
    | true =>
      obtain ⟨G, hG⟩ : ∃ G, (if 4 * v < 1000 then 1000 else 4 * v) = G := ⟨_, rfl⟩
      have hGb : 0 ≤ G ∧ G ≤ 256000000 := by rw [← hG]; split <;> omega
      obtain ⟨H, hH⟩ : ∃ H, (if m + G < 200000 then 200000 else m + G) = H := ⟨_, rfl⟩
      obtain ⟨R, hR⟩ : ∃ R, (if 64000000 < H then 64000000 else H) = R := ⟨_, rfl⟩
      have e : Hid ((⟨true, m, v, 0⟩ : RttS).rto = R) := Lib.hid (by
        show min (max (m + max (4 * v) 1000) 200000) 64000000 = R
        have h1 : max (4 * v) 1000 = G := by rw [← hG]; split <;> omega
        have h2 : max (m + G) 200000 = H := by rw [← hH]; split <;> omega
        rw [h1, h2, ← hR]; split <;> omega)
      obtain ⟨g0, g1⟩ := hGb
      go_enter Tryz.func147, Tryz.ntmps147
      go_wp2
      go_quiet (fail)
      go_wp2
      go_ret
      exact ⟨M.ret_int e.out.symm, _, rfl⟩
  · have hbn : (b != 0) = true := by rw [bne_iff_ne]; exact hb
    have e : Hid ((⟨k, m, v, b⟩ : RttS).rto = b) := Lib.hid (if_neg hb)
    clear hb
    go_enter Tryz.func147, Tryz.ntmps147
    go_wp2
    go_ret
    exact ⟨M.ret_int e.out.symm, 0, rfl⟩
end Go.Proofs.YtnhlachoimlhhaaGreatDoor
