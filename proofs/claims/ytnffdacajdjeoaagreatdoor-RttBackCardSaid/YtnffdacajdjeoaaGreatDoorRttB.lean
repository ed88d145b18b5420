/-
  The document's times over their block.
-/
import Derived.Test.YtnffdacajdjeoaaGreatDoorRttA
namespace Go.Proofs.YtnffdacajdjeoaaGreatDoor
open Go.ChangeShapes Go.WideShapes Go.ChangeAt Go.RowKit
set_option linter.unusedVariables false
set_option linter.unusedSimpArgs false

def refRttCells (k : Bool) (m v : Int) (n : Nat) : Array Value := #[.bool k, .int .i64 m, .int .i64 v, .int .i64 n]
def RefRtt (k : Bool) (m v : Int) (n : Nat) (C : Nat) (w : World) : Prop := BlkIs (refRttCells k m v n) 52 C w
theorem RefRtt.at_ {k : Bool} {m v : Int} {n C : Nat} {w : World} (h : RefRtt k m v n C w) : (w.cell? ⟨C, 0, none⟩ = some (.bool k) ∧ w.cell? ⟨C, 1, none⟩ = some (.int .i64 m) ∧ w.cell? ⟨C, 2, none⟩ = some (.int .i64 v) ∧ w.cell? ⟨C, 3, none⟩ = some (.int .i64 n)) ∧
    w.frozen? ⟨C, 0, none⟩ = false ∧ w.frozen? ⟨C, 1, none⟩ = false ∧ w.frozen? ⟨C, 2, none⟩ = false ∧ w.frozen? ⟨C, 3, none⟩ = false :=
  ⟨⟨BlkIs.cell h 0, BlkIs.cell h 1, BlkIs.cell h 2, BlkIs.cell h 3⟩, BlkIs.free h 0, BlkIs.free h 1, BlkIs.free h 2, BlkIs.free h 3⟩
set_option maxHeartbeats 2000000 in
theorem refSample_any (s : RttS) (hs : s.ok) (d : Int) (n : Nat) (C : Nat) (w : World) (h : RefRtt s.known s.smooth s.spread n C w) :
    Calls Tryz.prog 40 #[.pointer (some ⟨C, 0, none⟩), .int .i64 d] w fun e w' => e = .returned (.tuple #[]) ∧ RefRtt true (s.sample d).smooth (s.sample d).spread 0 C w' ∧ Kept [C] w w' := by
  have HB := Lib.hid h
  obtain ⟨⟨c0, c1, c2, c3⟩, f0, f1, f2, f3⟩ := h.at_
  obtain ⟨D, hD⟩ : ∃ D, M.rtD d = D := ⟨_, rfl⟩
  have hD2 := M.rtD_bd d
  rw [hD] at hD2
  obtain ⟨d0, d1⟩ := hD2
  have HD := Lib.hid hD
  obtain ⟨E, hE⟩ : ∃ E, (if 64000000 < d then 64000000 else d) = E := ⟨_, rfl⟩
  have hE2 : (if 0 < E then E else 0) = D := by rw [← hE, ← hD]; unfold M.rtD; split <;> split <;> omega
  obtain ⟨⟨s0, s1⟩, ⟨v0, v1⟩, _⟩ := hs
  obtain ⟨k, m, v, b⟩ := s
  simp only at c0 c1 c2 c3 s0 s1 v0 v1 HB
  clear h hD
  cases k with
  | false =>
    have e : Hid (refRttCells true ((⟨false, m, v, b⟩ : RttS).sample d).smooth ((⟨false, m, v, b⟩ : RttS).sample d).spread 0 = ((((refRttCells false m v n).setIfInBounds 3 (.int .i64 0)).setIfInBounds 0 (.bool true)).setIfInBounds 1 (.int .i64 D)).setIfInBounds 2 (.int .i64 (D / 2))) := Lib.hid (by
      unfold RttS.sample; rw [if_neg (by simp)]; rw [HD.out]; rfl)
    go_enter Tryz.func40, Tryz.ntmps40
    go_wp2
    refine bodyPost_ret (results_none rfl _ _ _) rfl ?_
    refine ⟨rfl, ?_, ((((Kept.refl _ _).setCell (.inl (by simp)) _).setCell (.inl (by simp)) _).setCell (.inl (by simp)) _).setCell (.inl (by simp)) _⟩
    unfold RefRtt
    rw [e.out]
    exact BlkIs.set (BlkIs.set (BlkIs.set (BlkIs.set HB.out 3 _) 0 _) 1 _) 2 _
  | true =>
    obtain ⟨P, hP⟩ : ∃ P, M.rtApart m D = P := ⟨_, rfl⟩
    have e : Hid (refRttCells true ((⟨true, m, v, b⟩ : RttS).sample d).smooth ((⟨true, m, v, b⟩ : RttS).sample d).spread 0 = (((refRttCells true m v n).setIfInBounds 3 (.int .i64 0)).setIfInBounds 2 (.int .i64 ((3 * v + P) / 4))).setIfInBounds 1 (.int .i64 ((7 * m + D) / 8))) := Lib.hid (by
      unfold RttS.sample; rw [if_pos rfl]; rw [HD.out, ← hP]; rfl)
    have HP := Lib.hid hP
    have fin : ∀ W : World, W = (((w.setCell ⟨C, 3, none⟩ (.int .i64 0)).setCell ⟨C, 2, none⟩ (.int .i64 ((3 * v + P) / 4))).setCell ⟨C, 1, none⟩ (.int .i64 ((7 * m + D) / 8))) → RefRtt true ((⟨true, m, v, b⟩ : RttS).sample d).smooth ((⟨true, m, v, b⟩ : RttS).sample d).spread 0 C W ∧ Kept [C] w W := fun W hW => by
      subst hW
      refine ⟨?_, (((Kept.refl _ _).setCell (.inl (by simp)) _).setCell (.inl (by simp)) _).setCell (.inl (by simp)) _⟩
      unfold RefRtt
      rw [e.out]
      exact BlkIs.set (BlkIs.set (BlkIs.set HB.out 3 _) 2 _) 1 _
    have FIN := Lib.hid fin
    clear fin
    by_cases hlt : m - D < 0
    · have hp : P = D - m := by rw [← hP]; unfold M.rtApart; omega
      subst hp
      clear hP
      go_enter Tryz.func40, Tryz.ntmps40
      go_wp2
      go_end0
      exact ⟨rfl, FIN.out _ rfl⟩
    · have hp : P = m - D := by rw [← hP]; unfold M.rtApart; omega
      subst hp
      clear hP
      go_enter Tryz.func40, Tryz.ntmps40
      go_wp2
      go_end0
      exact ⟨rfl, FIN.out _ rfl⟩
theorem M.rtDbls_top (j k : Nat) (n : Int) (h : M.rtDbls j n = 64000000) (hk : j ≤ k) : M.rtDbls k n = 64000000 := by
  induction k with
  | zero => obtain rfl : j = 0 := by omega
            exact h
  | succ k ih =>
    by_cases e : j = k + 1
    · subst e; exact h
    · have := ih (by omega)
      show M.rtDbl (M.rtDbls k n) = _
      rw [this]; rfl
set_option maxHeartbeats 2000000 in
theorem refRto_any (k : Bool) (m v : Int) (hm : 0 ≤ m ∧ m ≤ 64000000) (hv : 0 ≤ v ∧ v ≤ 64000000) (n : Nat) (hn : n ≤ 1000000) (C : Nat) (w : World) (h : RefRtt k m v n C w) :
    Calls Tryz.prog 44 #[.pointer (some ⟨C, 0, none⟩)] w fun e w' => e = .returned (.int .i64 (M.rtDbls n (M.rtBase k m v))) ∧ ∃ n, w' = w.drewN n := by
  have HB := Lib.hid h
  obtain ⟨⟨c0, c1, c2, c3⟩, f0, f1, f2, f3⟩ := h.at_
  obtain ⟨s0, s1⟩ := hm
  obtain ⟨v0, v1⟩ := hv
  clear h f0 f1 f2 f3
  -- the doublings, from whatever one begins with
  have loop : ∀ N0 : Int, 200000 ≤ N0 ∧ N0 ≤ 64000000 → True := fun _ _ => trivial
  clear loop
  cases k with
  | false =>
    have hb := M.rtBase_bd false m v
    have hbe : M.rtBase false m v = 3000000 := rfl
    rw [hbe]
    clear hb hbe
    go_enter Tryz.func44, Tryz.ntmps44
    go_wp2
    go_loop [3, 4] (fun a i => ∃ j : Nat, j ≤ n ∧ i = .int .i64 (j : Int) ∧ a = .int .i64 (M.rtDbls j 3000000)) (fun _ i => n - (intOf i).toNat)
    case atStart => exact ⟨0, Nat.zero_le _, rfl, rfl⟩
    case round =>
      obtain ⟨j, hj, rfl, rfl⟩ := hrel
      obtain ⟨b1, b2⟩ := M.rtDbls_bd j 3000000 (by omega)
      by_cases hlt : j < n
      · by_cases htop : M.rtDbls j 3000000 < 64000000
        · obtain ⟨R, hR⟩ : ∃ R, (if 64000000 < 2 * M.rtDbls j 3000000 then 64000000 else 2 * M.rtDbls j 3000000) = R := ⟨_, rfl⟩
          have e : Hid (M.rtDbls (j + 1) 3000000 = R) := Lib.hid (by rw [← hR]; show M.rtDbl _ = _; unfold M.rtDbl; split <;> omega)
          generalize M.rtDbls j 3000000 = D at *
          go_wp2
          go_round
          case rel => exact ⟨j + 1, by omega, by go_num, by rw [e.out]⟩
          case measure => simp [intOf]; omega
        · have e : Hid (M.rtDbls n 3000000 = M.rtDbls j 3000000) := Lib.hid (by rw [M.rtDbls_top j n _ (by omega) hj]; omega)
          generalize M.rtDbls j 3000000 = D at *
          go_wp2
          go_ret
          exact ⟨M.ret_int e.out.symm, 0, rfl⟩
      · have e : Hid (M.rtDbls n 3000000 = M.rtDbls j 3000000) := Lib.hid (by rw [show j = n by omega])
        generalize M.rtDbls j 3000000 = D at *
        go_wp2
        go_ret
        exact ⟨M.ret_int e.out.symm, 0, rfl⟩
  | true =>
    obtain ⟨G, hG⟩ : ∃ G, (if 4 * v < 1000 then 1000 else 4 * v) = G := ⟨_, rfl⟩
    have hGb : 0 ≤ G ∧ G ≤ 256000000 := by rw [← hG]; split <;> omega
    obtain ⟨H, hH⟩ : ∃ H, (if 64000000 < m + G then 64000000 else m + G) = H := ⟨_, rfl⟩
    obtain ⟨R0, hR0⟩ : ∃ R, (if 200000 < H then H else 200000) = R := ⟨_, rfl⟩
    have e0 : M.rtBase true m v = R0 := by
      unfold M.rtBase
      rw [if_pos rfl]
      have h1 : max (4 * v) 1000 = G := by rw [← hG]; split <;> omega
      rw [h1, ← hR0, ← hH]; split <;> split <;> omega
    have hRb := M.rtBase_bd true m v
    rw [e0] at hRb ⊢
    obtain ⟨g0, g1⟩ := hGb
    clear e0
    go_enter Tryz.func44, Tryz.ntmps44
    go_wp2
    go_quiet (fail)
    have c3' : (w.drewN nq).cell? ⟨C, 3, none⟩ = some (.int .i64 n) := c3
    have HQ : Hid (∃ q, w.drewN nq = w.drewN q) := Lib.hid ⟨_, rfl⟩
    clear c0 c1 c2 c3 HB hG hH hR0
    generalize w.drewN nq = w1 at *
    go_wp2
    go_loop [3, 4] (fun a i => ∃ j : Nat, j ≤ n ∧ i = .int .i64 (j : Int) ∧ a = .int .i64 (M.rtDbls j R0)) (fun _ i => n - (intOf i).toNat)
    case atStart => exact ⟨0, Nat.zero_le _, rfl, rfl⟩
    case round =>
      obtain ⟨j, hj, rfl, rfl⟩ := hrel
      obtain ⟨b1, b2⟩ := M.rtDbls_bd j R0 hRb
      by_cases hlt : j < n
      · by_cases htop : M.rtDbls j R0 < 64000000
        · obtain ⟨R, hR⟩ : ∃ R, (if 64000000 < 2 * M.rtDbls j R0 then 64000000 else 2 * M.rtDbls j R0) = R := ⟨_, rfl⟩
          have e : Hid (M.rtDbls (j + 1) R0 = R) := Lib.hid (by rw [← hR]; show M.rtDbl _ = _; unfold M.rtDbl; split <;> omega)
          generalize M.rtDbls j R0 = D at *
          go_wp2
          go_round
          case rel => exact ⟨j + 1, by omega, by go_num, by rw [e.out]⟩
          case measure => simp [intOf]; omega
        · have e : Hid (M.rtDbls n R0 = M.rtDbls j R0) := Lib.hid (by rw [M.rtDbls_top j n _ (by omega) hj]; omega)
          generalize M.rtDbls j R0 = D at *
          go_wp2
          go_ret
          exact ⟨M.ret_int e.out.symm, HQ.out⟩
      · have e : Hid (M.rtDbls n R0 = M.rtDbls j R0) := Lib.hid (by rw [show j = n by omega])
        generalize M.rtDbls j R0 = D at *
        go_wp2
        go_ret
        exact ⟨M.ret_int e.out.symm, HQ.out⟩
end Go.Proofs.YtnffdacajdjeoaaGreatDoor
