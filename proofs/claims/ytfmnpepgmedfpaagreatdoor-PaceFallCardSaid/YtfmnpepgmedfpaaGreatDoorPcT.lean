/-
  The document's Pace: Rate, Take, When.
-/
import Derived.Test.YtfmnpepgmedfpaaGreatDoorPcR
namespace Go.Proofs.YtfmnpepgmedfpaaGreatDoor
open Go.ChangeShapes Go.WideShapes Go.ChangeAt Go.RowKit
set_option linter.unusedVariables false
set_option linter.unusedSimpArgs false

set_option maxHeartbeats 4000000 in
set_option maxRecDepth 100000 in
theorem rpRate_any (s : PcS) (hs : s.Ok) (S : Nat) (hS : S ≤ 1400) (now : Int) (hn0 : 0 ≤ now) (hn1 : now ≤ 4611686018427387904) (x : Nat) (hx : x < 18446744073709551616) (D : Nat) (w : World) (h : RpAt s S D w) :
    Calls Tryz.prog 18 #[.pointer (some ⟨D, 0, none⟩), .int .i64 now, .int .u64 x] w fun e w' => e = .returned (.tuple #[]) ∧ RpAt ((s.fill now).rated x) S D w' ∧ Kept [D] w w' := by
  have HF := Lib.hid (rpTo_any s hs S hS now hn0 hn1 D w h)
  have hf := hs.fill now
  obtain ⟨q, hq⟩ : ∃ q, min (s.fill now).hv (max (s.fill now).least (M.mulT x (s.fill now).tick)) = q := ⟨_, rfl⟩
  obtain ⟨m1, m2, m3, _, _, _⟩ := mns _ _ q hq
  have HR : Hid ((s.fill now).rated x = { s.fill now with rate := x, hv := q }) := Lib.hid (by unfold PcS.rated; rw [hq])
  have HC : Hid (∀ W, RpAt { s.fill now with rate := x } S D W → Calls Tryz.prog 25 #[.pointer (some ⟨D, 0, none⟩)] W fun e w' => e = .returned (.int .u64 (max (s.fill now).least (M.mulT x (s.fill now).tick) : Nat)) ∧ ∃ n, w' = W.drewN n) := Lib.hid (fun W hW => rpCap_any { s.fill now with rate := x } hx (by have := hf.tick; show (s.fill now).tick < _; omega) S D hS W hW)
  generalize max (s.fill now).least (M.mulT x (s.fill now).tick) = K at *
  generalize s.fill now = t at *
  clear h hq hf
  go_enter Tryz.func18, Tryz.ntmps18
  go_upto_region 1 with (go_at_call 58; (with_reducible refine HF.out.mono ?_); rintro e W1 ⟨rfl, h1, k1⟩; have c2 := h1.cells.2.1; have f2 := h1.blk.free 1)
  go_upto_region 2 with fail
  obtain ⟨W2, hW2⟩ : ∃ W2, W1.setCell ⟨D, 1, none⟩ (.int .u64 x) = W2 := ⟨_, rfl⟩
  have h2 : RpAt { t with rate := x } S D W2 := by rw [← hW2]; exact h1.set 1 _ rfl rfl
  have k2 : Kept [D] w W2 := by rw [← hW2]; exact k1.setCell (.inl (by simp)) _
  rw [hW2]
  have c3 : W2.cell? ⟨D, 3, none⟩ = some (.int .u64 t.hv) := h2.cells.2.2.2.1
  have f3 := h2.blk.free 3
  have HC2 := Lib.hid (fun n => HC.out (W2.drewN n) (h2.drewN n))
  have H2 := Lib.hid h2
  have HK2 := Lib.hid k2
  clear hW2 h2 k2 h1 k1 c2 f2 HC HF
  generalize t.hv = hv at *
  go_region_with (go_at_call 25; (first | (with_reducible refine (HC2.out _).mono ?_) | (refine (HC2.out 1).mono ?_)); rintro e w2 ⟨rfl, n2, rfl⟩)
  all_goals
    go_wp2
    go_end0
    rw [HR.out]
    exact ⟨rfl, RpAt.set (s := { t with rate := x, hv := hv }) (t := { t with rate := x, hv := q }) (H2.out.drewN _) 3 _ rfl rfl, (HK2.out.drewN _).setCell (.inl (by simp)) _⟩
set_option maxHeartbeats 4000000 in
set_option maxRecDepth 100000 in
theorem rpTake_any (s : PcS) (hs : s.Ok) (S : Nat) (hS : S ≤ 1400) (now : Int) (hn0 : 0 ≤ now) (hn1 : now ≤ 4611686018427387904) (n : Int) (tk : Bool) (D : Nat) (w : World) (h : RpAt s S D w) :
    Calls Tryz.prog 20 #[.pointer (some ⟨D, 0, none⟩), .int .i64 now, .int .i64 n, .bool tk] w fun e w' => e = .returned (.bool ((s.fill now).has n)) ∧ RpAt (if tk = true then (s.fill now).took n else s.fill now) S D w' ∧ Kept [D] w w' := by
  have HF := Lib.hid (rpTo_any s hs S hS now hn0 hn1 D w h)
  have hf := (hs.fill now).hv
  generalize s.fill now = t at *
  clear h
  by_cases hn : 0 ≤ n ∧ n ≤ 65535
  · obtain ⟨m, rfl⟩ : ∃ m : Nat, n = (m : Int) := ⟨n.toNat, by omega⟩
    have hm : m ≤ 65535 := by omega
    have d1 : decide ((m : Int) < 0) = false := decide_eq_false (by omega)
    have d2 : decide (65535 < (m : Int)) = false := decide_eq_false (by omega)
    obtain ⟨A, hA⟩ : ∃ A, 64000000 * m = A := ⟨_, rfl⟩
    have i1 : (64000000 : Int) * (m : Int) = (A : Int) := by omega
    have hAb : A ≤ 4194240000000 := by omega
    have i2 : IntKind.u64.wrap (A : Int) = (A : Int) := by rw [IntKind.wrap_u64]; omega
    have hhas := t.has_in m hm
    rw [hA] at hhas
    obtain ⟨hv, hhv⟩ : ∃ hv, t.hv = hv := ⟨_, rfl⟩
    rw [hhv] at hf hhas
    have HV := Lib.hid hhv
    by_cases hle : A ≤ hv
    · rw [decide_eq_true hle] at hhas
      have HT : Hid (t.took m = { t with hv := hv - A }) := Lib.hid (by unfold PcS.took; rw [if_pos hhas, Int.toNat_natCast, hA, hhv])
      obtain ⟨G, hG⟩ : ∃ G, hv - A = G := ⟨_, rfl⟩
      rw [hG] at HT
      have d3 : decide ((hv : Int) < (A : Int)) = false := decide_eq_false (by omega)
      have i3 : IntKind.u64.wrap ((hv : Int) - (A : Int)) = (G : Int) := by rw [IntKind.wrap_u64]; omega
      rw [hhas]
      clear hhv hA hhas hG hn
      cases tk with
      | true =>
        rw [if_pos rfl]
        go_enter Tryz.func20, Tryz.ntmps20
        go_upto_region 2 with (go_at_call 58; (with_reducible refine HF.out.mono ?_); rintro e W1 ⟨rfl, h1, k1⟩; have c3 := h1.cells.2.2.2.1; rw [HV.out] at c3; have f3 := h1.blk.free 3)
        have H1 := Lib.hid h1
        have K1 := Lib.hid k1
        clear h1 k1
        go_wp2
        go_ret
        rw [HT.out]
        exact ⟨rfl, RpAt.set (t := { t with hv := G }) H1.out 3 _ rfl rfl, K1.out.setCell (.inl (by simp)) _⟩
      | false =>
        rw [if_neg (by decide)]
        go_enter Tryz.func20, Tryz.ntmps20
        go_wp2_with (go_at_call 58; (with_reducible refine HF.out.mono ?_); rintro e W1 ⟨rfl, h1, k1⟩; have c3 := h1.cells.2.2.2.1; rw [HV.out] at c3)
        go_ret
        exact ⟨rfl, h1, k1⟩
    · rw [decide_eq_false hle] at hhas
      rw [show (if tk = true then t.took m else t) = t by rw [t.took_no m hhas]; split <;> rfl]
      have d3 : decide ((hv : Int) < (A : Int)) = true := decide_eq_true (by omega)
      rw [hhas]
      clear hhv hA hhas hn
      go_enter Tryz.func20, Tryz.ntmps20
      go_wp2_with (go_at_call 58; (with_reducible refine HF.out.mono ?_); rintro e W1 ⟨rfl, h1, k1⟩; have c3 := h1.cells.2.2.2.1; rw [HV.out] at c3)
      go_ret
      exact ⟨rfl, h1, k1⟩
  · have hhas := t.has_out n hn
    rw [show (if tk = true then t.took n else t) = t by rw [t.took_no n hhas]; split <;> rfl]
    rw [hhas]
    have hex : n < 0 ∨ (¬ n < 0 ∧ 65535 < n) := by omega
    clear hhas hn
    rcases hex with g | ⟨g, g2⟩
    · have d1 : decide (n < 0) = true := decide_eq_true g
      go_enter Tryz.func20, Tryz.ntmps20
      go_wp2_with (go_at_call 58; (with_reducible refine HF.out.mono ?_); rintro e W1 ⟨rfl, h1, k1⟩)
      go_ret
      exact ⟨rfl, h1, k1⟩
    · have d1 : decide (n < 0) = false := decide_eq_false g
      have d2 : decide (65535 < n) = true := decide_eq_true g2
      go_enter Tryz.func20, Tryz.ntmps20
      go_wp2_with (go_at_call 58; (with_reducible refine HF.out.mono ?_); rintro e W1 ⟨rfl, h1, k1⟩)
      go_ret
      exact ⟨rfl, h1, k1⟩
end Go.Proofs.YtfmnpepgmedfpaaGreatDoor
