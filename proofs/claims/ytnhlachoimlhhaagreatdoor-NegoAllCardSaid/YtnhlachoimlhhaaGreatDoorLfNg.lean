/-
  The document's side of agreeing: what it holds; Want (and Like).
  The document's side of agreeing: a Confirm.
  The document's side of agreeing: a Confirm of each feature.
  The document's side of agreeing: Done; the features in their order.
  The document's side of agreeing: a new one.
  A drawn region in two stages, step by step: what reads and calls is taken while S holds; what writes comes behind, and need not keep S.
  The document's side of agreeing: Opts.
  The document's side of agreeing: what is made of a Change.
  The document's side of agreeing: Take.
  The document's own reading of options; options compared; the first one of a type.
  Options compared; the first one of a type; the document's own May.
  Both sides of agreeing, the program's and the document's, in one memory.
  A row of a negotiation's operations that came in as an argument, opened; lists within it.
  The law NegoAll, walked (its opening handed in).
-/
import Derived.Test.YtnhlachoimlhhaaGreatDoorNgX
import Derived.Test.YtnhlachoimlhhaaGreatDoorNgY
import Derived.BigQuiet
import Derived.Test.YtnhlachoimlhhaaGreatDoorNgZ
import Derived.Deep.RegionHeld3
import Derived.Test.YtnhlachoimlhhaaGreatDoorOpB
import Derived.Deep.QuietTactic
import Derived.OpenShut
import Derived.ChangeSlices
import Derived.ChangeSame
import Derived.Deep.Slices
import Derived.Deep.CutBlock
namespace Go.Proofs.YtnhlachoimlhhaaGreatDoor
open Go.ChangeShapes Go.WideShapes Go.ChangeAt Go.RowKit
set_option linter.unusedVariables false
set_option linter.unusedSimpArgs false

def rnCells (s : NgS) (due : Value) : Array Value := #[.bool s.server, eS, sV (s.want 1), eS, sV (s.want 3), eS, eS, sV (s.want 6), eS, sV (s.want 8),
  eS, sV (s.like 1), eS, sV (s.like 3), eS, eS, sV (s.like 6), eS, sV (s.like 8),
  eS, sV (s.mine 1), eS, sV (s.mine 3), eS, eS, sV (s.mine 6), eS, sV (s.mine 8),
  eS, sV (s.theirs 1), eS, sV (s.theirs 3), eS, eS, sV (s.theirs 6), eS, sV (s.theirs 8), due]
def RnAt (s : NgS) (due : Value) (C : Nat) (w : World) : Prop := BlkIs (rnCells s due) 41 C w
set_option maxHeartbeats 4000000 in
theorem rnWant_any (s : NgS) (due : Value) (f : Int) (l : List UInt8) (hl : l.length ≤ 9223372036854775807) (like : Bool) (C : Nat) (w : World) (h : RnAt s due C w) :
    Calls Tryz.prog 19 #[.pointer (some ⟨C, 0, none⟩), .int .i64 f, .string (str l), .bool like] w fun e w' => e = .returned (.int .i64 (ngJudge f l)) ∧ RnAt (if ngJudge f l = 0 then (if like = true then { s with like := upd s.like f l } else { s with want := upd s.want f l }) else s) due C w' ∧ Kept [C] w w' := by
  have HK := Lib.hid (fun W => rfKnown_any f W)
  have HM := Lib.hid (fun W => rfMay_any f l hl W)
  have H := Lib.hid h
  have fr := BlkIs.free h
  have ca : w.cell? ⟨C, 2, none⟩ = some (sV (s.want 1)) ∧ w.cell? ⟨C, 4, none⟩ = some (sV (s.want 3)) ∧ w.cell? ⟨C, 7, none⟩ = some (sV (s.want 6)) ∧ w.cell? ⟨C, 9, none⟩ = some (sV (s.want 8)) ∧ w.cell? ⟨C, 11, none⟩ = some (sV (s.like 1)) ∧ w.cell? ⟨C, 13, none⟩ = some (sV (s.like 3)) ∧ w.cell? ⟨C, 16, none⟩ = some (sV (s.like 6)) ∧ w.cell? ⟨C, 18, none⟩ = some (sV (s.like 8)) := ⟨BlkIs.cell h 2, BlkIs.cell h 4, BlkIs.cell h 7, BlkIs.cell h 9, BlkIs.cell h 11, BlkIs.cell h 13, BlkIs.cell h 16, BlkIs.cell h 18⟩
  rcases ngJudge_cases f l with hj | hj | ⟨hj, hf⟩
  · have hk : ftKnown f = false := by
      unfold ngJudge at hj
      by_cases h1 : ftKnown f = true
      · rw [if_pos h1] at hj
        split at hj <;> cases hj
      · simpa using h1
    rw [hk] at HK
    rw [hj, if_neg (by decide)]
    clear h fr ca HM
    go_enter Tryz.func19, Tryz.ntmps19
    go_wp2_with (go_at_call 68; (with_reducible refine (HK.out _).mono ?_); rintro e w1 ⟨rfl, rfl⟩)
    go_ret
    exact ⟨rfl, H.out, Kept.refl _ _⟩
  · have hk : ftKnown f = true ∧ ftMay f l = false := by
      unfold ngJudge at hj
      by_cases h1 : ftKnown f = true
      · rw [if_pos h1] at hj
        by_cases h2 : ftMay f l = true
        · rw [if_pos h2] at hj; cases hj
        · exact ⟨h1, by simpa using h2⟩
      · rw [if_neg h1] at hj; cases hj
    rw [hk.1] at HK
    rw [hk.2] at HM
    rw [hj, if_neg (by decide)]
    clear h fr ca
    go_enter Tryz.func19, Tryz.ntmps19
    go_wp2_with (first
      | (go_at_call 68; (with_reducible refine (HK.out _).mono ?_); rintro e w1 ⟨rfl, rfl⟩)
      | (go_at_call 69; (with_reducible refine (HM.out _).mono ?_); rintro e w2 ⟨rfl, n2, rfl⟩))
    go_ret
    exact ⟨rfl, BlkIs.drewN H.out _, (Kept.refl _ _).drewN _⟩
  · have hk : ftKnown f = true ∧ ftMay f l = true := by
      unfold ngJudge at hj
      by_cases h1 : ftKnown f = true
      · rw [if_pos h1] at hj
        by_cases h2 : ftMay f l = true
        · exact ⟨h1, h2⟩
        · rw [if_neg h2] at hj; cases hj
      · rw [if_neg h1] at hj; cases hj
    rw [hk.1] at HK
    rw [hk.2] at HM
    rw [hj, if_pos rfl]
    clear h hj hk
    obtain ⟨sl, hsl⟩ : ∃ x, str l = x := ⟨_, rfl⟩
    rw [hsl] at HM ⊢
    have HSL := Lib.hid hsl
    clear hsl
    obtain ⟨a1, a3, a6, a8, k1, k3, k6, k8⟩ := ca
    rcases hf with rfl | rfl | rfl | rfl
    all_goals cases like
    all_goals
      go_enter Tryz.func19, Tryz.ntmps19
      go_wp2_with (first
        | (go_at_call 68; (with_reducible refine (HK.out _).mono ?_); rintro e w1 ⟨rfl, rfl⟩)
        | (go_at_call 69; (with_reducible refine (HM.out _).mono ?_); rintro e w2 ⟨rfl, n2, rfl⟩))
      go_ret
      refine ⟨rfl, ?_, ((Kept.refl [C] w).drewN n2).setCell (.inl (by simp)) _⟩
      have h9 := fun i v => BlkIs.set (BlkIs.drewN H.out n2) i v
      rw [← HSL.out]
      exact h9 _ _
end Go.Proofs.YtnhlachoimlhhaaGreatDoor

namespace Go.Proofs.YtnhlachoimlhhaaGreatDoor
open Go.ChangeShapes Go.WideShapes Go.ChangeAt Go.RowKit
set_option linter.unusedVariables false
set_option linter.unusedSimpArgs false

set_option maxHeartbeats 4000000 in
set_option maxRecDepth 100000 in
theorem rnConfirm_1 (s : NgS) (due : Value) (l : List UInt8) (hl : l.length ≤ 9223372036854775807) (hok : s.Ok) (C : Nat) (w : World) (h : RnAt s due C w) :
    Calls Tryz.prog 73 #[.pointer (some ⟨C, 0, none⟩), .int .i64 1, .string (str l)] w fun e w' => e = .returned (.bool (s.confirm 1 l).isSome) ∧ RnAt ((s.confirm 1 l).getD s) due C w' ∧ Kept [C] w w' := by
  have HK := Lib.hid (fun W => rfKnown_any 1 W)
  rw [show ftKnown 1 = true from rfl] at HK
  have HL := Lib.hid (fun W => rfList_any 1 W)
  rw [show (ftSpan 1).isSome = true from rfl] at HL
  have hwl := hok.want_len 1
  have HA := Lib.hid h
  have f0 : w.cell? ⟨C, 2, none⟩ = some (.string (str (s.want 1))) := BlkIs.cell h 2
  have f2 : w.cell? ⟨C, 20, none⟩ = some (.string (str (s.mine 1))) := BlkIs.cell h 20
  have ff0 := BlkIs.free h 2
  have ff2 := BlkIs.free h 20
  have hst0 := Lib.hid (show BlkIs (rnCells { s with want := upd s.want 1 [] } due) 41 C (w.setCell ⟨C, 2, none⟩ (.string ⟨#[]⟩)) from BlkIs.set h 2 (.string ⟨#[]⟩))
  by_cases hw : s.want 1 = []
  · have HR : Hid (s.confirm 1 l = some s) := Lib.hid (by unfold NgS.confirm; rw [if_neg (fun h => h.2 hw)])
    rw [HR.out]
    rw [hw, show str [] = ⟨#[]⟩ from rfl] at f0
    generalize str l = y at *
    clear hst0 hwl hok h hw f2
    go_enter Tryz.func73, Tryz.ntmps73
    go_wp2_with (go_at_call 68; (with_reducible refine (HK.out _).mono ?_); rintro e w1 ⟨rfl, rfl⟩)
    go_ret
    exact ⟨rfl, HA.out, Kept.refl _ _⟩
  · have hwe := str_ne hw
    cases l with
    | nil =>
      have HR : Hid (s.confirm 1 [] = some { s with want := upd s.want 1 [] }) := Lib.hid (by unfold NgS.confirm; rw [if_pos ⟨rfl, hw⟩])
      rw [HR.out, show str [] = ⟨#[]⟩ from rfl]
      generalize str (s.want 1) = z at *
      clear hwl hok h hw f2
      go_enter Tryz.func73, Tryz.ntmps73
      go_wp2_with (go_at_call 68; (with_reducible refine (HK.out _).mono ?_); rintro e w1 ⟨rfl, rfl⟩)
      go_ret
      exact ⟨rfl, hst0.out, (Kept.refl [C] w).setCell (.inl (by simp)) _⟩
    | cons b r =>
      have hle := str_ne (l := b :: r) (by simp)
      have hsl : ∀ W, (Instr.slice 9 (.string (str (b :: r))) none (some (.int .i64 1)) none).run Tryz.prog W = .ok (.string (str [b])) W := fun W => str_pre (b :: r) 1 (by simp) hl W
      have HH := Lib.hid (fun W => rfHas_any (s.want 1) (by omega) b W)
      have HR : Hid (s.confirm 1 (b :: r) = if b ∈ s.want 1 then some { s with mine := upd s.mine 1 [b], want := upd s.want 1 [] } else none) := Lib.hid (by
        unfold NgS.confirm
        rw [if_pos ⟨rfl, hw⟩]
        dsimp only
        rw [if_pos (show ftLst 1 = true from rfl)])
      rw [HR.out]
      have hst2 := BlkIs.set (BlkIs.set (BlkIs.drewN h 0) 20 (.string (str [b]))) 2 (.string ⟨#[]⟩)
      have HST : Hid (∀ n m, BlkIs (rnCells { s with mine := upd s.mine 1 [b], want := upd s.want 1 [] } due) 41 C ((((w.drewN n).setCell ⟨C, 20, none⟩ (.string (str [b]))).setCell ⟨C, 2, none⟩ (.string ⟨#[]⟩)).drewN m)) := Lib.hid (fun n m => BlkIs.drewN (BlkIs.set (BlkIs.set (BlkIs.drewN h n) 20 (.string (str [b]))) 2 (.string ⟨#[]⟩)) m)
      have hys : 1 ≤ (str (b :: r)).size := by
        show 1 ≤ (b :: r).length
        simp
      have hx1 : (str [b]).size = 1 := rfl
      have hxb : ∀ hh : 0 < (str [b]).size, (((str [b])[0]'hh).toNat : Int) = (b.toNat : Int) := fun hh => rfl
      generalize str (b :: r) = y at *
      generalize str [b] = x at *
      generalize str (s.want 1) = z at *
      clear hst2 hwl hok h hw hl HR hst0
      by_cases hin : b ∈ s.want 1
      · rw [decide_eq_true hin] at HH
        rw [if_pos hin]
        clear hin
        go_enter Tryz.func73, Tryz.ntmps73
        go_upto_region 9 with (first
          | (go_at_call 68; (with_reducible refine (HK.out _).mono ?_); rintro e w1 ⟨rfl, rfl⟩)
          | (go_at_call 65; (with_reducible refine (HL.out _).mono ?_); rintro e w2 ⟨rfl, rfl⟩))
        have hx0 : 0 < x.size := by rw [hx1]; decide
        go_quiet ((go_at_call 110; exact Calls.quiet_of_same ((HH.out _).mono fun e w' ⟨q1, q2⟩ => ⟨q1, q2.symm⟩)))
        go_upto_region 13 with fail
        go_region
        all_goals
          go_wp2
          go_ret
          refine ⟨rfl, HST.out nq 1, ?_⟩
          exact (((((Kept.refl [C] w).drewN nq).setCell (.inl (by simp)) _).setCell (.inl (by simp)) _).drewN 1)
      · rw [decide_eq_false hin] at HH
        rw [if_neg hin]
        clear hin
        go_enter Tryz.func73, Tryz.ntmps73
        go_upto_region 9 with (first
          | (go_at_call 68; (with_reducible refine (HK.out _).mono ?_); rintro e w1 ⟨rfl, rfl⟩)
          | (go_at_call 65; (with_reducible refine (HL.out _).mono ?_); rintro e w2 ⟨rfl, rfl⟩))
        have hx0 : 0 < x.size := by rw [hx1]; decide
        go_quiet ((go_at_call 110; exact Calls.quiet_of_same ((HH.out _).mono fun e w' ⟨q1, q2⟩ => ⟨q1, q2.symm⟩)))
        go_wp2
        go_ret
        exact ⟨rfl, BlkIs.drewN HA.out _, (Kept.refl _ _).drewN _⟩
end Go.Proofs.YtnhlachoimlhhaaGreatDoor

namespace Go.Proofs.YtnhlachoimlhhaaGreatDoor
open Go.ChangeShapes Go.WideShapes Go.ChangeAt Go.RowKit
set_option linter.unusedVariables false
set_option linter.unusedSimpArgs false

set_option maxHeartbeats 4000000 in
set_option maxRecDepth 100000 in
theorem rnConfirm_6 (s : NgS) (due : Value) (l : List UInt8) (hl : l.length ≤ 9223372036854775807) (hok : s.Ok) (C : Nat) (w : World) (h : RnAt s due C w) :
    Calls Tryz.prog 73 #[.pointer (some ⟨C, 0, none⟩), .int .i64 6, .string (str l)] w fun e w' => e = .returned (.bool (s.confirm 6 l).isSome) ∧ RnAt ((s.confirm 6 l).getD s) due C w' ∧ Kept [C] w w' := by
  have HK := Lib.hid (fun W => rfKnown_any 6 W)
  rw [show ftKnown 6 = true from rfl] at HK
  have HL := Lib.hid (fun W => rfList_any 6 W)
  rw [show (ftSpan 6).isSome = true from rfl] at HL
  have hwl := hok.want_len 6
  have HA := Lib.hid h
  have f0 : w.cell? ⟨C, 7, none⟩ = some (.string (str (s.want 6))) := BlkIs.cell h 7
  have f2 : w.cell? ⟨C, 25, none⟩ = some (.string (str (s.mine 6))) := BlkIs.cell h 25
  have ff0 := BlkIs.free h 7
  have ff2 := BlkIs.free h 25
  have hst0 := Lib.hid (show BlkIs (rnCells { s with want := upd s.want 6 [] } due) 41 C (w.setCell ⟨C, 7, none⟩ (.string ⟨#[]⟩)) from BlkIs.set h 7 (.string ⟨#[]⟩))
  by_cases hw : s.want 6 = []
  · have HR : Hid (s.confirm 6 l = some s) := Lib.hid (by unfold NgS.confirm; rw [if_neg (fun h => h.2 hw)])
    rw [HR.out]
    rw [hw, show str [] = ⟨#[]⟩ from rfl] at f0
    generalize str l = y at *
    clear hst0 hwl hok h hw f2
    go_enter Tryz.func73, Tryz.ntmps73
    go_wp2_with (go_at_call 68; (with_reducible refine (HK.out _).mono ?_); rintro e w1 ⟨rfl, rfl⟩)
    go_ret
    exact ⟨rfl, HA.out, Kept.refl _ _⟩
  · have hwe := str_ne hw
    cases l with
    | nil =>
      have HR : Hid (s.confirm 6 [] = some { s with want := upd s.want 6 [] }) := Lib.hid (by unfold NgS.confirm; rw [if_pos ⟨rfl, hw⟩])
      rw [HR.out, show str [] = ⟨#[]⟩ from rfl]
      generalize str (s.want 6) = z at *
      clear hwl hok h hw f2
      go_enter Tryz.func73, Tryz.ntmps73
      go_wp2_with (go_at_call 68; (with_reducible refine (HK.out _).mono ?_); rintro e w1 ⟨rfl, rfl⟩)
      go_ret
      exact ⟨rfl, hst0.out, (Kept.refl [C] w).setCell (.inl (by simp)) _⟩
    | cons b r =>
      have hle := str_ne (l := b :: r) (by simp)
      have hsl : ∀ W, (Instr.slice 9 (.string (str (b :: r))) none (some (.int .i64 1)) none).run Tryz.prog W = .ok (.string (str [b])) W := fun W => str_pre (b :: r) 1 (by simp) hl W
      have HH := Lib.hid (fun W => rfHas_any (s.want 6) (by omega) b W)
      have HR : Hid (s.confirm 6 (b :: r) = if b ∈ s.want 6 then some { s with mine := upd s.mine 6 [b], want := upd s.want 6 [] } else none) := Lib.hid (by
        unfold NgS.confirm
        rw [if_pos ⟨rfl, hw⟩]
        dsimp only
        rw [if_pos (show ftLst 6 = true from rfl)])
      rw [HR.out]
      have hst2 := BlkIs.set (BlkIs.set (BlkIs.drewN h 0) 25 (.string (str [b]))) 7 (.string ⟨#[]⟩)
      have HST : Hid (∀ n m, BlkIs (rnCells { s with mine := upd s.mine 6 [b], want := upd s.want 6 [] } due) 41 C ((((w.drewN n).setCell ⟨C, 25, none⟩ (.string (str [b]))).setCell ⟨C, 7, none⟩ (.string ⟨#[]⟩)).drewN m)) := Lib.hid (fun n m => BlkIs.drewN (BlkIs.set (BlkIs.set (BlkIs.drewN h n) 25 (.string (str [b]))) 7 (.string ⟨#[]⟩)) m)
      have hys : 1 ≤ (str (b :: r)).size := by
        show 1 ≤ (b :: r).length
        simp
      have hx1 : (str [b]).size = 1 := rfl
      have hxb : ∀ hh : 0 < (str [b]).size, (((str [b])[0]'hh).toNat : Int) = (b.toNat : Int) := fun hh => rfl
      generalize str (b :: r) = y at *
      generalize str [b] = x at *
      generalize str (s.want 6) = z at *
      clear hst2 hwl hok h hw hl HR hst0
      by_cases hin : b ∈ s.want 6
      · rw [decide_eq_true hin] at HH
        rw [if_pos hin]
        clear hin
        go_enter Tryz.func73, Tryz.ntmps73
        go_upto_region 9 with (first
          | (go_at_call 68; (with_reducible refine (HK.out _).mono ?_); rintro e w1 ⟨rfl, rfl⟩)
          | (go_at_call 65; (with_reducible refine (HL.out _).mono ?_); rintro e w2 ⟨rfl, rfl⟩))
        have hx0 : 0 < x.size := by rw [hx1]; decide
        go_quiet ((go_at_call 110; exact Calls.quiet_of_same ((HH.out _).mono fun e w' ⟨q1, q2⟩ => ⟨q1, q2.symm⟩)))
        go_upto_region 13 with fail
        go_region
        all_goals
          go_wp2
          go_ret
          refine ⟨rfl, HST.out nq 1, ?_⟩
          exact (((((Kept.refl [C] w).drewN nq).setCell (.inl (by simp)) _).setCell (.inl (by simp)) _).drewN 1)
      · rw [decide_eq_false hin] at HH
        rw [if_neg hin]
        clear hin
        go_enter Tryz.func73, Tryz.ntmps73
        go_upto_region 9 with (first
          | (go_at_call 68; (with_reducible refine (HK.out _).mono ?_); rintro e w1 ⟨rfl, rfl⟩)
          | (go_at_call 65; (with_reducible refine (HL.out _).mono ?_); rintro e w2 ⟨rfl, rfl⟩))
        have hx0 : 0 < x.size := by rw [hx1]; decide
        go_quiet ((go_at_call 110; exact Calls.quiet_of_same ((HH.out _).mono fun e w' ⟨q1, q2⟩ => ⟨q1, q2.symm⟩)))
        go_wp2
        go_ret
        exact ⟨rfl, BlkIs.drewN HA.out _, (Kept.refl _ _).drewN _⟩
set_option maxHeartbeats 4000000 in
set_option maxRecDepth 100000 in
theorem rnConfirm_8 (s : NgS) (due : Value) (l : List UInt8) (hl : l.length ≤ 9223372036854775807) (hok : s.Ok) (C : Nat) (w : World) (h : RnAt s due C w) :
    Calls Tryz.prog 73 #[.pointer (some ⟨C, 0, none⟩), .int .i64 8, .string (str l)] w fun e w' => e = .returned (.bool (s.confirm 8 l).isSome) ∧ RnAt ((s.confirm 8 l).getD s) due C w' ∧ Kept [C] w w' := by
  have HK := Lib.hid (fun W => rfKnown_any 8 W)
  rw [show ftKnown 8 = true from rfl] at HK
  have HL := Lib.hid (fun W => rfList_any 8 W)
  rw [show (ftSpan 8).isSome = true from rfl] at HL
  have hwl := hok.want_len 8
  have HA := Lib.hid h
  have f0 : w.cell? ⟨C, 9, none⟩ = some (.string (str (s.want 8))) := BlkIs.cell h 9
  have f2 : w.cell? ⟨C, 27, none⟩ = some (.string (str (s.mine 8))) := BlkIs.cell h 27
  have ff0 := BlkIs.free h 9
  have ff2 := BlkIs.free h 27
  have hst0 := Lib.hid (show BlkIs (rnCells { s with want := upd s.want 8 [] } due) 41 C (w.setCell ⟨C, 9, none⟩ (.string ⟨#[]⟩)) from BlkIs.set h 9 (.string ⟨#[]⟩))
  by_cases hw : s.want 8 = []
  · have HR : Hid (s.confirm 8 l = some s) := Lib.hid (by unfold NgS.confirm; rw [if_neg (fun h => h.2 hw)])
    rw [HR.out]
    rw [hw, show str [] = ⟨#[]⟩ from rfl] at f0
    generalize str l = y at *
    clear hst0 hwl hok h hw f2
    go_enter Tryz.func73, Tryz.ntmps73
    go_wp2_with (go_at_call 68; (with_reducible refine (HK.out _).mono ?_); rintro e w1 ⟨rfl, rfl⟩)
    go_ret
    exact ⟨rfl, HA.out, Kept.refl _ _⟩
  · have hwe := str_ne hw
    cases l with
    | nil =>
      have HR : Hid (s.confirm 8 [] = some { s with want := upd s.want 8 [] }) := Lib.hid (by unfold NgS.confirm; rw [if_pos ⟨rfl, hw⟩])
      rw [HR.out, show str [] = ⟨#[]⟩ from rfl]
      generalize str (s.want 8) = z at *
      clear hwl hok h hw f2
      go_enter Tryz.func73, Tryz.ntmps73
      go_wp2_with (go_at_call 68; (with_reducible refine (HK.out _).mono ?_); rintro e w1 ⟨rfl, rfl⟩)
      go_ret
      exact ⟨rfl, hst0.out, (Kept.refl [C] w).setCell (.inl (by simp)) _⟩
    | cons b r =>
      have hle := str_ne (l := b :: r) (by simp)
      have hsl : ∀ W, (Instr.slice 9 (.string (str (b :: r))) none (some (.int .i64 1)) none).run Tryz.prog W = .ok (.string (str [b])) W := fun W => str_pre (b :: r) 1 (by simp) hl W
      have HH := Lib.hid (fun W => rfHas_any (s.want 8) (by omega) b W)
      have HR : Hid (s.confirm 8 (b :: r) = if b ∈ s.want 8 then some { s with mine := upd s.mine 8 [b], want := upd s.want 8 [] } else none) := Lib.hid (by
        unfold NgS.confirm
        rw [if_pos ⟨rfl, hw⟩]
        dsimp only
        rw [if_pos (show ftLst 8 = true from rfl)])
      rw [HR.out]
      have hst2 := BlkIs.set (BlkIs.set (BlkIs.drewN h 0) 27 (.string (str [b]))) 9 (.string ⟨#[]⟩)
      have HST : Hid (∀ n m, BlkIs (rnCells { s with mine := upd s.mine 8 [b], want := upd s.want 8 [] } due) 41 C ((((w.drewN n).setCell ⟨C, 27, none⟩ (.string (str [b]))).setCell ⟨C, 9, none⟩ (.string ⟨#[]⟩)).drewN m)) := Lib.hid (fun n m => BlkIs.drewN (BlkIs.set (BlkIs.set (BlkIs.drewN h n) 27 (.string (str [b]))) 9 (.string ⟨#[]⟩)) m)
      have hys : 1 ≤ (str (b :: r)).size := by
        show 1 ≤ (b :: r).length
        simp
      have hx1 : (str [b]).size = 1 := rfl
      have hxb : ∀ hh : 0 < (str [b]).size, (((str [b])[0]'hh).toNat : Int) = (b.toNat : Int) := fun hh => rfl
      generalize str (b :: r) = y at *
      generalize str [b] = x at *
      generalize str (s.want 8) = z at *
      clear hst2 hwl hok h hw hl HR hst0
      by_cases hin : b ∈ s.want 8
      · rw [decide_eq_true hin] at HH
        rw [if_pos hin]
        clear hin
        go_enter Tryz.func73, Tryz.ntmps73
        go_upto_region 9 with (first
          | (go_at_call 68; (with_reducible refine (HK.out _).mono ?_); rintro e w1 ⟨rfl, rfl⟩)
          | (go_at_call 65; (with_reducible refine (HL.out _).mono ?_); rintro e w2 ⟨rfl, rfl⟩))
        have hx0 : 0 < x.size := by rw [hx1]; decide
        go_quiet ((go_at_call 110; exact Calls.quiet_of_same ((HH.out _).mono fun e w' ⟨q1, q2⟩ => ⟨q1, q2.symm⟩)))
        go_upto_region 13 with fail
        go_region
        all_goals
          go_wp2
          go_ret
          refine ⟨rfl, HST.out nq 1, ?_⟩
          exact (((((Kept.refl [C] w).drewN nq).setCell (.inl (by simp)) _).setCell (.inl (by simp)) _).drewN 1)
      · rw [decide_eq_false hin] at HH
        rw [if_neg hin]
        clear hin
        go_enter Tryz.func73, Tryz.ntmps73
        go_upto_region 9 with (first
          | (go_at_call 68; (with_reducible refine (HK.out _).mono ?_); rintro e w1 ⟨rfl, rfl⟩)
          | (go_at_call 65; (with_reducible refine (HL.out _).mono ?_); rintro e w2 ⟨rfl, rfl⟩))
        have hx0 : 0 < x.size := by rw [hx1]; decide
        go_quiet ((go_at_call 110; exact Calls.quiet_of_same ((HH.out _).mono fun e w' ⟨q1, q2⟩ => ⟨q1, q2.symm⟩)))
        go_wp2
        go_ret
        exact ⟨rfl, BlkIs.drewN HA.out _, (Kept.refl _ _).drewN _⟩
set_option maxHeartbeats 4000000 in
set_option maxRecDepth 100000 in
theorem rnConfirm_3 (s : NgS) (due : Value) (l : List UInt8) (hl : l.length ≤ 9223372036854775807) (hok : s.Ok) (C : Nat) (w : World) (h : RnAt s due C w) :
    Calls Tryz.prog 73 #[.pointer (some ⟨C, 0, none⟩), .int .i64 3, .string (str l)] w fun e w' => e = .returned (.bool (s.confirm 3 l).isSome) ∧ RnAt ((s.confirm 3 l).getD s) due C w' ∧ Kept [C] w w' := by
  have HK := Lib.hid (fun W => rfKnown_any 3 W)
  rw [show ftKnown 3 = true from rfl] at HK
  have HL := Lib.hid (fun W => rfList_any 3 W)
  rw [show (ftSpan 3).isSome = false from rfl] at HL
  have hwl := hok.want_len 3
  have HA := Lib.hid h
  have f0 : w.cell? ⟨C, 4, none⟩ = some (.string (str (s.want 3))) := BlkIs.cell h 4
  have f2 : w.cell? ⟨C, 22, none⟩ = some (.string (str (s.mine 3))) := BlkIs.cell h 22
  have ff0 := BlkIs.free h 4
  have ff2 := BlkIs.free h 22
  have hst0 := Lib.hid (show BlkIs (rnCells { s with want := upd s.want 3 [] } due) 41 C (w.setCell ⟨C, 4, none⟩ (.string ⟨#[]⟩)) from BlkIs.set h 4 (.string ⟨#[]⟩))
  by_cases hw : s.want 3 = []
  · have HR : Hid (s.confirm 3 l = some s) := Lib.hid (by unfold NgS.confirm; rw [if_neg (fun h => h.2 hw)])
    rw [HR.out]
    rw [hw, show str [] = ⟨#[]⟩ from rfl] at f0
    generalize str l = y at *
    clear hst0 hwl hok h hw f2
    go_enter Tryz.func73, Tryz.ntmps73
    go_wp2_with (go_at_call 68; (with_reducible refine (HK.out _).mono ?_); rintro e w1 ⟨rfl, rfl⟩)
    go_ret
    exact ⟨rfl, HA.out, Kept.refl _ _⟩
  · have hwe := str_ne hw
    cases l with
    | nil =>
      have HR : Hid (s.confirm 3 [] = some { s with want := upd s.want 3 [] }) := Lib.hid (by unfold NgS.confirm; rw [if_pos ⟨rfl, hw⟩])
      rw [HR.out, show str [] = ⟨#[]⟩ from rfl]
      generalize str (s.want 3) = z at *
      clear hwl hok h hw f2
      go_enter Tryz.func73, Tryz.ntmps73
      go_wp2_with (go_at_call 68; (with_reducible refine (HK.out _).mono ?_); rintro e w1 ⟨rfl, rfl⟩)
      go_ret
      exact ⟨rfl, hst0.out, (Kept.refl [C] w).setCell (.inl (by simp)) _⟩
    | cons b r =>
      have hle := str_ne (l := b :: r) (by simp)
      have HR : Hid (s.confirm 3 (b :: r) = if s.want 3 = b :: r then some { s with mine := upd s.mine 3 (b :: r), want := upd s.want 3 [] } else none) := Lib.hid (by
        unfold NgS.confirm
        rw [if_pos ⟨rfl, hw⟩]
        dsimp only
        rw [if_neg (show ¬ ftLst 3 = true by decide)])
      rw [HR.out]
      have HST : Hid (∀ n m, BlkIs (rnCells { s with mine := upd s.mine 3 (b :: r), want := upd s.want 3 [] } due) 41 C ((((w.drewN n).setCell ⟨C, 22, none⟩ (.string (str (b :: r)))).setCell ⟨C, 4, none⟩ (.string ⟨#[]⟩)).drewN m)) := Lib.hid (fun n m => BlkIs.drewN (BlkIs.set (BlkIs.set (BlkIs.drewN h n) 22 (.string (str (b :: r)))) 4 (.string ⟨#[]⟩)) m)
      by_cases hin : s.want 3 = b :: r
      · rw [if_pos hin]
        rw [hin] at f0 hwe
        clear hwl hok h hw hl HR hst0 hin
        generalize str (b :: r) = y at *
        go_enter Tryz.func73, Tryz.ntmps73
        go_upto_region 13 with (first
          | (go_at_call 68; (with_reducible refine (HK.out _).mono ?_); rintro e w1 ⟨rfl, rfl⟩)
          | (go_at_call 65; (with_reducible refine (HL.out _).mono ?_); rintro e w2 ⟨rfl, rfl⟩))
        go_region
        all_goals
          go_wp2
          go_ret
          refine ⟨rfl, HST.out 0 1, ?_⟩
          exact ((((Kept.refl [C] w).setCell (.inl (by simp)) _).setCell (.inl (by simp)) _).drewN 1)
      · rw [if_neg hin]
        have hne : ((str (b :: r)).toList == (str (s.want 3)).toList) = false := by
          rw [str_toList, str_toList]
          exact beq_eq_false_iff_ne.2 (fun e => hin e.symm)
        clear hwl hok h hw hl HR hst0 hin HST
        generalize str (b :: r) = y at *
        generalize str (s.want 3) = z at *
        go_enter Tryz.func73, Tryz.ntmps73
        go_wp2_with (first
          | (go_at_call 68; (with_reducible refine (HK.out _).mono ?_); rintro e w1 ⟨rfl, rfl⟩)
          | (go_at_call 65; (with_reducible refine (HL.out _).mono ?_); rintro e w2 ⟨rfl, rfl⟩))
        go_ret
        exact ⟨rfl, HA.out, Kept.refl _ _⟩
theorem rnConfirm_none (s : NgS) (due : Value) (f : Int) (hf : ftKnown f = false) (l : List UInt8) (C : Nat) (w : World) (h : RnAt s due C w) :
    Calls Tryz.prog 73 #[.pointer (some ⟨C, 0, none⟩), .int .i64 f, .string (str l)] w fun e w' => e = .returned (.bool (s.confirm f l).isSome) ∧ RnAt ((s.confirm f l).getD s) due C w' ∧ Kept [C] w w' := by
  have HK := Lib.hid (fun W => rfKnown_any f W)
  rw [hf] at HK
  have HA := Lib.hid h
  have HR : Hid (s.confirm f l = some s) := Lib.hid (by unfold NgS.confirm; rw [if_neg (fun h => by rw [hf] at h; cases h.1)])
  rw [HR.out]
  clear h
  go_enter Tryz.func73, Tryz.ntmps73
  go_wp2_with (go_at_call 68; (with_reducible refine (HK.out _).mono ?_); rintro e w1 ⟨rfl, rfl⟩)
  go_ret
  exact ⟨rfl, HA.out, Kept.refl _ _⟩
theorem rnConfirm_any (s : NgS) (due : Value) (f : Int) (l : List UInt8) (hl : l.length ≤ 9223372036854775807) (hok : s.Ok) (C : Nat) (w : World) (h : RnAt s due C w) :
    Calls Tryz.prog 73 #[.pointer (some ⟨C, 0, none⟩), .int .i64 f, .string (str l)] w fun e w' => e = .returned (.bool (s.confirm f l).isSome) ∧ RnAt ((s.confirm f l).getD s) due C w' ∧ Kept [C] w w' := by
  cases hk : ftKnown f with
  | false => exact rnConfirm_none s due f hk l C w h
  | true =>
    rcases ftKnown_cases hk with rfl | rfl | rfl | rfl
    · exact rnConfirm_1 s due l hl hok C w h
    · exact rnConfirm_3 s due l hl hok C w h
    · exact rnConfirm_6 s due l hl hok C w h
    · exact rnConfirm_8 s due l hl hok C w h
end Go.Proofs.YtnhlachoimlhhaaGreatDoor

namespace Go.Proofs.YtnhlachoimlhhaaGreatDoor
open Go.ChangeShapes Go.WideShapes Go.ChangeAt Go.RowKit
set_option linter.unusedVariables false
set_option linter.unusedSimpArgs false

def rnFeats : Array Value := #[.int .i64 1, .int .i64 3, .int .i64 6, .int .i64 8]
theorem rnFeatures_any (w : World) :
    Calls Tryz.prog 63 #[] w fun e w' => e = .returned (.slice (some ⟨w.heap.size, 0, none⟩) 4 4) ∧ w' = w.alloc (.cells rnFeats 3) := by
  go_enter Tryz.func63, Tryz.ntmps63
  go_wp2
  go_ret
  exact ⟨rfl, rfl⟩
set_option maxHeartbeats 4000000 in
theorem rnDone_any (s : NgS) (due : Value) (C : Nat) (w : World) (h : RnAt s due C w) :
    Calls Tryz.prog 27 #[.pointer (some ⟨C, 0, none⟩)] w fun e w' => e = .returned (.bool s.done) ∧ Below w.heap.size w w' := by
  obtain ⟨w1, hw1⟩ : ∃ w1, w.alloc (.cells rnFeats 3) = w1 := ⟨_, rfl⟩
  have h1 : RnAt s due C w1 := by rw [← hw1]; exact BlkIs.alloc h _
  have hb : BlkIs rnFeats 3 w.heap.size w1 := by rw [← hw1]; exact BlkIs.new _ _ _
  have HB : Hid (Below w.heap.size w w1) := Lib.hid (by rw [← hw1]; exact bel_alloc _ _)
  have HF : Hid (Calls Tryz.prog 63 #[] w fun e w' => e = .returned (.slice (some ⟨w.heap.size, 0, none⟩) 4 4) ∧ w' = w1) := Lib.hid (by rw [← hw1]; exact rnFeatures_any w)
  clear hw1 h
  generalize w.heap.size = B at *
  have b0 : w1.cell? ⟨B, 0, none⟩ = some (.int .i64 1) := BlkIs.cell hb 0
  have b1 : w1.cell? ⟨B, 1, none⟩ = some (.int .i64 3) := BlkIs.cell hb 1
  have b2 : w1.cell? ⟨B, 2, none⟩ = some (.int .i64 6) := BlkIs.cell hb 2
  have b3 : w1.cell? ⟨B, 3, none⟩ = some (.int .i64 8) := BlkIs.cell hb 3
  have a1 : w1.cell? ⟨C, 2, none⟩ = some (sV (s.want 1)) := BlkIs.cell h1 2
  have a3 : w1.cell? ⟨C, 4, none⟩ = some (sV (s.want 3)) := BlkIs.cell h1 4
  have a6 : w1.cell? ⟨C, 7, none⟩ = some (sV (s.want 6)) := BlkIs.cell h1 7
  have a8 : w1.cell? ⟨C, 9, none⟩ = some (sV (s.want 8)) := BlkIs.cell h1 9
  have key : (s.want 1 ≠ [] ∧ s.done = false) ∨ (s.want 1 = [] ∧ s.want 3 ≠ [] ∧ s.done = false) ∨ (s.want 1 = [] ∧ s.want 3 = [] ∧ s.want 6 ≠ [] ∧ s.done = false) ∨ (s.want 1 = [] ∧ s.want 3 = [] ∧ s.want 6 = [] ∧ s.want 8 ≠ [] ∧ s.done = false) ∨ (s.want 1 = [] ∧ s.want 3 = [] ∧ s.want 6 = [] ∧ s.want 8 = [] ∧ s.done = true) := by
    unfold NgS.done
    by_cases c1 : s.want 1 = []
    · by_cases c3 : s.want 3 = []
      · by_cases c6 : s.want 6 = []
        · by_cases c8 : s.want 8 = [] <;> simp [c1, c3, c6, c8]
        · simp [c1, c3, c6]
      · simp [c1, c3]
    · simp [c1]
  have he : str [] = ⟨#[]⟩ := rfl
  unfold sV at a1 a3 a6 a8
  clear h1 hb
  rcases key with ⟨c1, hd⟩ | ⟨c1, c3, hd⟩ | ⟨c1, c3, c6, hd⟩ | ⟨c1, c3, c6, c8, hd⟩ | ⟨c1, c3, c6, c8, hd⟩
  all_goals rw [hd]
  all_goals (try rw [c1, he] at a1)
  all_goals (try rw [c3, he] at a3)
  all_goals (try rw [c6, he] at a6)
  all_goals (try rw [c8, he] at a8)
  all_goals (try have n1 := str_ne c1)
  all_goals (try have n3 := str_ne c3)
  all_goals (try have n6 := str_ne c6)
  all_goals (try have n8 := str_ne c8)
  all_goals
    go_enter Tryz.func27, Tryz.ntmps27
    go_upto_region 2 with (go_at_call 63; (with_reducible refine HF.out.mono ?_); rintro e wq ⟨rfl, rfl⟩)
    refine wp_loop_rounds 5 ?_
    rw [rounds_succ]
    go_wp2
    iterate 4 (try (rw [rounds_succ]; go_wp2))
    go_ret
    exact ⟨rfl, HB.out⟩
end Go.Proofs.YtnhlachoimlhhaaGreatDoor

namespace Go.Proofs.YtnhlachoimlhhaaGreatDoor
open Go.ChangeShapes Go.WideShapes Go.ChangeAt Go.RowKit
set_option linter.unusedVariables false
set_option linter.unusedSimpArgs false

def rnIx (f : Int) : Nat := if f = 1 then 0 else if f = 3 then 1 else if f = 6 then 2 else 3
/-- The first k features are laid. -/
def rnPart (server : Bool) (k : Nat) : NgS := ⟨server, fun _ => [], fun f => if rnIx f < k then ftAll f else [], fun f => if rnIx f < k then ftDefault f else [], fun f => if rnIx f < k then ftDefault f else []⟩
theorem rnPart_all (server : Bool) : rnCells (rnPart server 4) (.slice none 0 0) = rnCells (ngInit server) (.slice none 0 0) := by rfl
theorem rnPart_zero (server : Bool) : rnCells (rnPart server 0) (.slice none 0 0) = #[.bool server, eS, eS, eS, eS, eS, eS, eS, eS, eS, eS, eS, eS, eS, eS, eS, eS, eS, eS, eS, eS, eS, eS, eS, eS, eS, eS, eS, eS, eS, eS, eS, eS, eS, eS, eS, eS, .slice none 0 0] := by rfl
set_option maxHeartbeats 16000000 in
set_option maxRecDepth 100000 in
theorem rnNew_any (server : Bool) (w : World) :
    Calls Tryz.prog 16 #[.bool server] w fun e w' => e = .returned (.pointer (some ⟨w.heap.size, 0, none⟩)) ∧ RnAt (ngInit server) (.slice none 0 0) w.heap.size w' ∧ Below w.heap.size w w' := by
  have HF := Lib.hid (fun W => rnFeatures_any W)
  have HL := Lib.hid (fun f W => rfList_any f W)
  have HD := Lib.hid (fun f W => rfDefault_any f W)
  have HAL := Lib.hid (fun f h W => rfAll_any f h W)
  have hz := rnPart_zero server
  unfold eS at hz
  go_enter Tryz.func16, Tryz.ntmps16
  go_upto_region 2 with fail
  obtain ⟨W0, hW0⟩ : ∃ W0, w.alloc (.cells (rnCells (rnPart server 0) (.slice none 0 0)) 41) = W0 := ⟨_, rfl⟩
  have h0 : RnAt (rnPart server 0) (.slice none 0 0) w.heap.size W0 := by rw [← hW0]; exact BlkIs.new _ _ _
  have HB0 : Hid (Below w.heap.size w W0) := Lib.hid (by rw [← hW0]; exact bel_alloc _ _)
  rw [hz] at hW0
  rw [hW0]
  obtain ⟨C, hC⟩ : ∃ C, w.heap.size = C := ⟨_, rfl⟩
  rw [hC] at h0 HB0 ⊢
  have hCe := Lib.hid hC
  clear hW0 hz hC
  go_upto_region 3 with (go_at_call 63; (with_reducible refine (HF.out _).mono ?_); rintro e w1 ⟨rfl, rfl⟩)
  obtain ⟨W1, hW1⟩ : ∃ W1, W0.alloc (.cells rnFeats 3) = W1 := ⟨_, rfl⟩
  have H1 : Hid (RnAt (rnPart server 0) (.slice none 0 0) C W1) := Lib.hid (by rw [← hW1]; exact BlkIs.alloc h0 _)
  have HR1 : Hid (BlkIs rnFeats 3 W0.heap.size W1) := Lib.hid (by rw [← hW1]; exact BlkIs.new _ _ _)
  have HB1 : Hid (Below C w W1) := Lib.hid (by rw [← hW1]; exact HB0.out.trans ((bel_alloc W0 _).mono (by have := h0.lt; omega)))
  have HNE : Hid (C < W0.heap.size) := Lib.hid h0.lt
  rw [hW1]
  generalize W0.heap.size = B at *
  clear h0 hW1 HB0
  go_loopw [5, 11] (fun fv i wr => ∃ k : Nat, i = .int .i64 (k : Int) ∧ k ≤ 4 ∧ Hid (RnAt (rnPart server k) (.slice none 0 0) C wr) ∧ Hid (BlkIs rnFeats 3 B wr) ∧ Hid (Below C w wr)) (fun _ i _ => 4 - (intOf i).toNat)
  case atStart => exact ⟨0, rfl, by decide, H1, HR1, HB1⟩
  case round =>
    obtain ⟨k, rfl, hk, hn, hr, hb⟩ := hrel
    by_cases hk4 : k = 4
    · subst hk4
      go_wp2
      go_ret
      refine ⟨by rw [hCe.out]; rfl, ?_, by rw [hCe.out]; exact hb.out⟩
      rw [hCe.out]
      have h9 := hn.out
      unfold RnAt at h9 ⊢
      rw [rnPart_all] at h9
      exact h9
    · have hk3 : k = 0 ∨ k = 1 ∨ k = 2 ∨ k = 3 := by omega
      have b0 : wr.cell? ⟨B, 0, none⟩ = some (.int .i64 1) := BlkIs.cell hr.out 0
      have b1 : wr.cell? ⟨B, 1, none⟩ = some (.int .i64 3) := BlkIs.cell hr.out 1
      have b2 : wr.cell? ⟨B, 2, none⟩ = some (.int .i64 6) := BlkIs.cell hr.out 2
      have b3 : wr.cell? ⟨B, 3, none⟩ = some (.int .i64 8) := BlkIs.cell hr.out 3
      rcases hk3 with rfl | rfl | rfl | rfl
      · have hn1 : BlkIs (rnCells (rnPart server 0) (.slice none 0 0)) 41 C wr.drew := BlkIs.drewN hn.out 1
        have hr1 : BlkIs rnFeats 3 B wr.drew := BlkIs.drewN hr.out 1
        have hx1 : Below C w wr.drew := hb.out.trans ((bel_drewN wr 1).mono (by have := hn.out.lt; omega))
        have HD1 := Lib.hid (fun W => HD.out 1 W)
        have HL1 := Lib.hid (fun W => HL.out 1 W)
        rw [show (ftSpan 1).isSome = true from rfl] at HL1
        go_upto_region 5 with fail
        go_region_with ((go_at_call 64; (with_reducible refine (HD1.out _).mono ?_); rintro e wd ⟨rfl, hbd⟩; have hx1 := hx1.trans (hbd.mono (Nat.le_of_lt (BlkIs.lt hn1))); have hr1 := BlkIs.below hr1 hbd; have hn1 := BlkIs.below hn1 hbd; have cm : wd.cell? ⟨C, 20, none⟩ = some eS := BlkIs.cell hn1 20; have ct : wd.cell? ⟨C, 29, none⟩ = some eS := BlkIs.cell hn1 29; have fm := BlkIs.free hn1 20; have ft := BlkIs.free hn1 29))
        obtain ⟨W5, hW5⟩ : ∃ W5, (wd.setCell ⟨C, 20, none⟩ (.string (str (ftDefault 1)))).setCell ⟨C, 29, none⟩ (.string (str (ftDefault 1))) = W5 := ⟨_, rfl⟩
        have hn5 := Lib.hid (BlkIs.set (BlkIs.set hn1 20 (.string (str (ftDefault 1)))) 29 (.string (str (ftDefault 1))))
        have hr5 : Hid (BlkIs rnFeats 3 B W5) := Lib.hid (by rw [← hW5]; exact BlkIs.far (BlkIs.far hr1 (p := ⟨C, 20, none⟩) (by have := HNE.out; simp; omega) _) (p := ⟨C, 29, none⟩) (by have := HNE.out; simp; omega) _)
        have hx5 : Hid (Below C w W5) := Lib.hid (by rw [← hW5]; exact (hx1.setCell (p := ⟨C, 20, none⟩) (Nat.le_refl _) _).setCell (p := ⟨C, 29, none⟩) (Nat.le_refl _) _)
        rw [hW5] at hn5 ⊢
        clear hW5 hn1 hr1 hx1 hbd cm ct fm ft b0 b1 b2 b3
        have HA1 := Lib.hid (fun W => HAL.out 1 rfl W)
        go_upto_region 7 with (go_at_call 65; (with_reducible refine (HL1.out _).mono ?_); rintro e wq ⟨rfl, rfl⟩)
        have hn6 := BlkIs.drewN hn5.out 1
        have hr6 : BlkIs rnFeats 3 B W5.drew := BlkIs.drewN hr5.out 1
        have hx6 : Below C w W5.drew := hx5.out.trans ((bel_drewN W5 1).mono (Nat.le_of_lt (BlkIs.lt hn5.out)))
        go_region_with ((go_at_call 66; (with_reducible refine (HA1.out _).mono ?_); rintro e we ⟨rfl, hbe⟩; have hx7 := hx6.trans (hbe.mono (Nat.le_of_lt (BlkIs.lt hn6))); have hr7 := BlkIs.below hr6 hbe; have hn7 := BlkIs.below hn6 hbe; have cl : we.cell? ⟨C, 11, none⟩ = some eS := BlkIs.cell hn7 11; have fl := BlkIs.free hn7 11))
        all_goals
          go_wp2
          refine ⟨⟨1, by go_num, by decide, Lib.hid (BlkIs.set hn7 11 _), Lib.hid (BlkIs.far hr7 (p := ⟨C, 11, none⟩) (by have := HNE.out; simp; omega) _), Lib.hid (hx7.setCell (p := ⟨C, 11, none⟩) (Nat.le_refl _) _)⟩, ?_⟩
          simp [intOf]
      · have hn1 : BlkIs (rnCells (rnPart server 1) (.slice none 0 0)) 41 C wr.drew := BlkIs.drewN hn.out 1
        have hr1 : BlkIs rnFeats 3 B wr.drew := BlkIs.drewN hr.out 1
        have hx1 : Below C w wr.drew := hb.out.trans ((bel_drewN wr 1).mono (by have := hn.out.lt; omega))
        have HD1 := Lib.hid (fun W => HD.out 3 W)
        have HL1 := Lib.hid (fun W => HL.out 3 W)
        rw [show (ftSpan 3).isSome = false from rfl] at HL1
        go_upto_region 5 with fail
        go_region_with ((go_at_call 64; (with_reducible refine (HD1.out _).mono ?_); rintro e wd ⟨rfl, hbd⟩; have hx1 := hx1.trans (hbd.mono (Nat.le_of_lt (BlkIs.lt hn1))); have hr1 := BlkIs.below hr1 hbd; have hn1 := BlkIs.below hn1 hbd; have cm : wd.cell? ⟨C, 22, none⟩ = some eS := BlkIs.cell hn1 22; have ct : wd.cell? ⟨C, 31, none⟩ = some eS := BlkIs.cell hn1 31; have fm := BlkIs.free hn1 22; have ft := BlkIs.free hn1 31))
        obtain ⟨W5, hW5⟩ : ∃ W5, (wd.setCell ⟨C, 22, none⟩ (.string (str (ftDefault 3)))).setCell ⟨C, 31, none⟩ (.string (str (ftDefault 3))) = W5 := ⟨_, rfl⟩
        have hn5 := Lib.hid (BlkIs.set (BlkIs.set hn1 22 (.string (str (ftDefault 3)))) 31 (.string (str (ftDefault 3))))
        have hr5 : Hid (BlkIs rnFeats 3 B W5) := Lib.hid (by rw [← hW5]; exact BlkIs.far (BlkIs.far hr1 (p := ⟨C, 22, none⟩) (by have := HNE.out; simp; omega) _) (p := ⟨C, 31, none⟩) (by have := HNE.out; simp; omega) _)
        have hx5 : Hid (Below C w W5) := Lib.hid (by rw [← hW5]; exact (hx1.setCell (p := ⟨C, 22, none⟩) (Nat.le_refl _) _).setCell (p := ⟨C, 31, none⟩) (Nat.le_refl _) _)
        rw [hW5] at hn5 ⊢
        clear hW5 hn1 hr1 hx1 hbd cm ct fm ft b0 b1 b2 b3
        go_wp2_with (go_at_call 65; (with_reducible refine (HL1.out _).mono ?_); rintro e wq ⟨rfl, rfl⟩)
        refine ⟨⟨2, by go_num, by decide, Lib.hid hn5.out, hr5, hx5⟩, ?_⟩
        simp [intOf]
      · have hn1 : BlkIs (rnCells (rnPart server 2) (.slice none 0 0)) 41 C wr.drew := BlkIs.drewN hn.out 1
        have hr1 : BlkIs rnFeats 3 B wr.drew := BlkIs.drewN hr.out 1
        have hx1 : Below C w wr.drew := hb.out.trans ((bel_drewN wr 1).mono (by have := hn.out.lt; omega))
        have HD1 := Lib.hid (fun W => HD.out 6 W)
        have HL1 := Lib.hid (fun W => HL.out 6 W)
        rw [show (ftSpan 6).isSome = true from rfl] at HL1
        go_upto_region 5 with fail
        go_region_with ((go_at_call 64; (with_reducible refine (HD1.out _).mono ?_); rintro e wd ⟨rfl, hbd⟩; have hx1 := hx1.trans (hbd.mono (Nat.le_of_lt (BlkIs.lt hn1))); have hr1 := BlkIs.below hr1 hbd; have hn1 := BlkIs.below hn1 hbd; have cm : wd.cell? ⟨C, 25, none⟩ = some eS := BlkIs.cell hn1 25; have ct : wd.cell? ⟨C, 34, none⟩ = some eS := BlkIs.cell hn1 34; have fm := BlkIs.free hn1 25; have ft := BlkIs.free hn1 34))
        obtain ⟨W5, hW5⟩ : ∃ W5, (wd.setCell ⟨C, 25, none⟩ (.string (str (ftDefault 6)))).setCell ⟨C, 34, none⟩ (.string (str (ftDefault 6))) = W5 := ⟨_, rfl⟩
        have hn5 := Lib.hid (BlkIs.set (BlkIs.set hn1 25 (.string (str (ftDefault 6)))) 34 (.string (str (ftDefault 6))))
        have hr5 : Hid (BlkIs rnFeats 3 B W5) := Lib.hid (by rw [← hW5]; exact BlkIs.far (BlkIs.far hr1 (p := ⟨C, 25, none⟩) (by have := HNE.out; simp; omega) _) (p := ⟨C, 34, none⟩) (by have := HNE.out; simp; omega) _)
        have hx5 : Hid (Below C w W5) := Lib.hid (by rw [← hW5]; exact (hx1.setCell (p := ⟨C, 25, none⟩) (Nat.le_refl _) _).setCell (p := ⟨C, 34, none⟩) (Nat.le_refl _) _)
        rw [hW5] at hn5 ⊢
        clear hW5 hn1 hr1 hx1 hbd cm ct fm ft b0 b1 b2 b3
        have HA1 := Lib.hid (fun W => HAL.out 6 rfl W)
        go_upto_region 7 with (go_at_call 65; (with_reducible refine (HL1.out _).mono ?_); rintro e wq ⟨rfl, rfl⟩)
        have hn6 := BlkIs.drewN hn5.out 1
        have hr6 : BlkIs rnFeats 3 B W5.drew := BlkIs.drewN hr5.out 1
        have hx6 : Below C w W5.drew := hx5.out.trans ((bel_drewN W5 1).mono (Nat.le_of_lt (BlkIs.lt hn5.out)))
        go_region_with ((go_at_call 66; (with_reducible refine (HA1.out _).mono ?_); rintro e we ⟨rfl, hbe⟩; have hx7 := hx6.trans (hbe.mono (Nat.le_of_lt (BlkIs.lt hn6))); have hr7 := BlkIs.below hr6 hbe; have hn7 := BlkIs.below hn6 hbe; have cl : we.cell? ⟨C, 16, none⟩ = some eS := BlkIs.cell hn7 16; have fl := BlkIs.free hn7 16))
        all_goals
          go_wp2
          refine ⟨⟨3, by go_num, by decide, Lib.hid (BlkIs.set hn7 16 _), Lib.hid (BlkIs.far hr7 (p := ⟨C, 16, none⟩) (by have := HNE.out; simp; omega) _), Lib.hid (hx7.setCell (p := ⟨C, 16, none⟩) (Nat.le_refl _) _)⟩, ?_⟩
          simp [intOf]
      · have hn1 : BlkIs (rnCells (rnPart server 3) (.slice none 0 0)) 41 C wr.drew := BlkIs.drewN hn.out 1
        have hr1 : BlkIs rnFeats 3 B wr.drew := BlkIs.drewN hr.out 1
        have hx1 : Below C w wr.drew := hb.out.trans ((bel_drewN wr 1).mono (by have := hn.out.lt; omega))
        have HD1 := Lib.hid (fun W => HD.out 8 W)
        have HL1 := Lib.hid (fun W => HL.out 8 W)
        rw [show (ftSpan 8).isSome = true from rfl] at HL1
        go_upto_region 5 with fail
        go_region_with ((go_at_call 64; (with_reducible refine (HD1.out _).mono ?_); rintro e wd ⟨rfl, hbd⟩; have hx1 := hx1.trans (hbd.mono (Nat.le_of_lt (BlkIs.lt hn1))); have hr1 := BlkIs.below hr1 hbd; have hn1 := BlkIs.below hn1 hbd; have cm : wd.cell? ⟨C, 27, none⟩ = some eS := BlkIs.cell hn1 27; have ct : wd.cell? ⟨C, 36, none⟩ = some eS := BlkIs.cell hn1 36; have fm := BlkIs.free hn1 27; have ft := BlkIs.free hn1 36))
        obtain ⟨W5, hW5⟩ : ∃ W5, (wd.setCell ⟨C, 27, none⟩ (.string (str (ftDefault 8)))).setCell ⟨C, 36, none⟩ (.string (str (ftDefault 8))) = W5 := ⟨_, rfl⟩
        have hn5 := Lib.hid (BlkIs.set (BlkIs.set hn1 27 (.string (str (ftDefault 8)))) 36 (.string (str (ftDefault 8))))
        have hr5 : Hid (BlkIs rnFeats 3 B W5) := Lib.hid (by rw [← hW5]; exact BlkIs.far (BlkIs.far hr1 (p := ⟨C, 27, none⟩) (by have := HNE.out; simp; omega) _) (p := ⟨C, 36, none⟩) (by have := HNE.out; simp; omega) _)
        have hx5 : Hid (Below C w W5) := Lib.hid (by rw [← hW5]; exact (hx1.setCell (p := ⟨C, 27, none⟩) (Nat.le_refl _) _).setCell (p := ⟨C, 36, none⟩) (Nat.le_refl _) _)
        rw [hW5] at hn5 ⊢
        clear hW5 hn1 hr1 hx1 hbd cm ct fm ft b0 b1 b2 b3
        have HA1 := Lib.hid (fun W => HAL.out 8 rfl W)
        go_upto_region 7 with (go_at_call 65; (with_reducible refine (HL1.out _).mono ?_); rintro e wq ⟨rfl, rfl⟩)
        have hn6 := BlkIs.drewN hn5.out 1
        have hr6 : BlkIs rnFeats 3 B W5.drew := BlkIs.drewN hr5.out 1
        have hx6 : Below C w W5.drew := hx5.out.trans ((bel_drewN W5 1).mono (Nat.le_of_lt (BlkIs.lt hn5.out)))
        go_region_with ((go_at_call 66; (with_reducible refine (HA1.out _).mono ?_); rintro e we ⟨rfl, hbe⟩; have hx7 := hx6.trans (hbe.mono (Nat.le_of_lt (BlkIs.lt hn6))); have hr7 := BlkIs.below hr6 hbe; have hn7 := BlkIs.below hn6 hbe; have cl : we.cell? ⟨C, 18, none⟩ = some eS := BlkIs.cell hn7 18; have fl := BlkIs.free hn7 18))
        all_goals
          go_wp2
          refine ⟨⟨4, by go_num, by decide, Lib.hid (BlkIs.set hn7 18 _), Lib.hid (BlkIs.far hr7 (p := ⟨C, 18, none⟩) (by have := HNE.out; simp; omega) _), Lib.hid (hx7.setCell (p := ⟨C, 18, none⟩) (Nat.le_refl _) _)⟩, ?_⟩
          simp [intOf]
end Go.Proofs.YtnhlachoimlhhaaGreatDoor

namespace Go.Proofs.YtnhlachoimlhhaaGreatDoor
set_option linter.unusedVariables false

section
variable {P : Program} {md : Region.Mode} {ops : Array Oper} {Q : Exit → Act → World → Prop} {S : World → Prop} {n : Nat}

/-- Whatever order is picked from here on; behind each of the first n operations S holds. -/
def wpAnyT (P : Program) (md : Region.Mode) (ops : Array Oper) (Q : Exit → Act → World → Prop) (S : World → Prop) (n : Nat) : Nat → Array Bool → Act → World → Prop
  | 0, listed, a, w => Region.ready md ops listed = [] ∧ Q .normal a w
  | fuel + 1, listed, a, w =>
    (Region.ready md ops listed = [] → Q .normal a w) ∧
    ∀ i ∈ Region.ready md ops listed, wpOp P ops Q i (fun a' w' => (i < n → S w') ∧ wpAnyT P md ops Q S n fuel (listed.setIfInBounds i true) a' w') a w

theorem wpAny_of_T : ∀ (fuel : Nat) (listed : Array Bool) (a : Act) (w : World), wpAnyT P md ops Q S n fuel listed a w → wpAny P md ops Q fuel listed a w
  | 0, _, _, _, h => h
  | fuel + 1, _, _, _, h => ⟨h.1, fun i hi => wpOp_mono (fun a' w' h' => wpAny_of_T fuel _ a' w' h'.2) (h.2 i hi)⟩

/-- An operation that may come up now may be taken first, if it yields its value in every world that meets R, and what can come ahead of it keeps R. -/
theorem wpAnyT_first (R : World → Prop) {i : Nat} {oi : Oper} {v : Value} (hi : ops[i]? = some oi) (hsel : ∀ (j : Nat) (o : Oper) cs b, ops[j]? = some o → o.op ≠ .select cs b)
    (hQ : ∀ c a w, Q (.panic c) (a.put oi.dst v) w → Q (.panic c) a w)
    (hRS : ∀ W, R W → i < n → S W) (hT : ∀ j oj, ops[j]? = some oj → (∀ e ∈ oj.after, Region.binds md e = true → e.on ≠ i) → ∀ W, (j < n → S W) → R W) :
    ∀ (fuel : Nat) (listed : Array Bool) (a : Act) (w : World),
      (∀ j oj, ops[j]? = some oj → j ≠ i → listed.getD j true = false → (∀ e ∈ oj.after, Region.binds md e = true → e.on ≠ i) → oi.apart ops oj = true) →
      i ∈ Region.ready md ops listed → YieldsIf P ops R oi v a → R w →
      wpAnyT P md ops Q S n fuel (listed.setIfInBounds i true) (a.put oi.dst v) w → wpAnyT P md ops Q S n (fuel + 1) listed a w := by
  intro fuel
  induction fuel with
  | zero =>
    intro listed a w _ hr hy hR H
    refine ⟨fun h => (by rw [h] at hr; cases hr), fun j hj => ?_⟩
    by_cases hji : j = i
    · subst hji; exact hy.wpOp hi hR ⟨hRS w hR, H⟩
    · have := ready_mono hj hji
      rw [H.1] at this
      cases this
  | succ fuel ih =>
    intro listed a w hfree hr hy hR H
    refine ⟨fun h => (by rw [h] at hr; cases hr), fun j hj => ?_⟩
    by_cases hji : j = i
    · subst hji; exact hy.wpOp hi hR ⟨hRS w hR, H⟩
    · have h1 := H.2 j (ready_mono hj hji)
      obtain ⟨hjun, oj, hoj, hall⟩ := mem_ready.1 hj
      have hnot : ∀ e ∈ oj.after, Region.binds md e = true → e.on ≠ i := fun e he hb heq => by
        have h1 := hall e he hb
        have h0 := (mem_ready.1 hr).1
        rw [heq] at h1
        rcases Nat.lt_or_ge i listed.size with h' | h'
        · simp [h'] at h0 h1; rw [h0] at h1; cases h1
        · simp [Array.getElem?_eq_none h'] at h1
      have h2 := wpOp_putIf hoj (hfree j oj hoj hji hjun hnot) (fun cs b => hsel i oi cs b hi) (fun cs b => hsel j oj cs b hoj) hQ hy h1
      have hfree' : ∀ k ok, ops[k]? = some ok → k ≠ i → (listed.setIfInBounds j true).getD k true = false →
          (∀ e ∈ ok.after, Region.binds md e = true → e.on ≠ i) → oi.apart ops ok = true := fun k ok hk hki hun hno => by
        refine hfree k ok hk hki ?_ hno
        by_cases hjk : j = k
        · subst hjk; exact hjun
        · rw [getD_set_ne true hjk] at hun; exact hun
      refine wpOp_mono (fun a' w' h3 => ⟨h3.2.1, ih (listed.setIfInBounds j true) a' w' hfree' (ready_mono hr (Ne.symm hji)) h3.1 (hT j oj hoj hnot w' h3.2.1) ?_⟩) h2
      rw [Array.setIfInBounds_comm _ _ hji]
      exact h3.2.2

/-- All from n on wait for operation i. -/
def waitsB (md : Region.Mode) (ops : Array Oper) (n i : Nat) : Bool :=
  (List.range ops.size).all fun t => decide (t < n) || (match ops[t]? with | some o => o.after.toList.any (fun e => Region.binds md e && decide (e.on = i)) | none => true)
theorem waits_spec {i : Nat} (hw : waitsB md ops n i = true) (j : Nat) (oj : Oper) (hj : ops[j]? = some oj) (hnot : ∀ e ∈ oj.after, Region.binds md e = true → e.on ≠ i) : j < n := by
  have hlt : j < ops.size := (Array.getElem?_eq_some_iff.1 hj).1
  have h := List.all_eq_true.1 hw j (List.mem_range.2 hlt)
  rw [hj] at h
  simp only [Bool.or_eq_true, decide_eq_true_eq] at h
  rcases h with h | h
  · exact h
  · obtain ⟨e, he, h2⟩ := List.any_eq_true.1 h
    simp only [Bool.and_eq_true, decide_eq_true_eq] at h2
    exact absurd h2.2 (hnot e (by simpa using he) h2.1)

/-- One of the first n, for which all behind them wait: it yields its value wherever S holds. -/
theorem wpAnyT_takeK {i d : Nat} (op : Op) (v : Value) {fuel : Nat} {listed : Array Bool} {a : Act} {w : World}
    (hk : (ops[i]?).map (fun o => (o.dst, o.op, Region.wanted o (yielded ops a.tmps))) = some (some d, op, true))
    (hs : Region.noSelect ops = true) (hf : Region.free md ops listed i = true) (hr : (Region.ready md ops listed).contains i = true) (hw : waitsB md ops n i = true)
    (hQ : ∀ c a w, Q (.panic c) (a.put (some d) v) w → Q (.panic c) a w)
    (hy : ∀ o : Oper, o.op = op → ∀ W, S W → (execOp a.eval o).run P W = .ok (.value v) W) (hS : S w)
    (h : wpAnyT P md ops Q S n fuel (listed.setIfInBounds i true) (a.put (some d) v) w) : wpAnyT P md ops Q S n (fuel + 1) listed a w := by
  cases ho : ops[i]? with
  | none => rw [ho] at hk; cases hk
  | some o =>
    rw [ho] at hk
    injection hk with hk
    injection hk with h1 h2
    injection h2 with h2 h3
    rw [← h1] at h hQ
    exact wpAnyT_first S ho (Region.noSelect_spec hs) hQ (fun _ hW _ => hW) (fun j oj hj hnot W hW => hW (waits_spec hw j oj hj hnot)) fuel listed a w (Region.free_spec ho hf) (by simpa using hr) (.inl ⟨h3, hy o h2⟩) hS h
/-- One of those behind them that looks at no memory. -/
theorem wpAnyT_tailK {i d : Nat} (op : Op) (v : Value) {fuel : Nat} {listed : Array Bool} {a : Act} {w : World}
    (hk : (ops[i]?).map (fun o => (o.dst, o.op, Region.wanted o (yielded ops a.tmps))) = some (some d, op, true))
    (hs : Region.noSelect ops = true) (hf : Region.free md ops listed i = true) (hr : (Region.ready md ops listed).contains i = true) (hn : n ≤ i)
    (hQ : ∀ c a w, Q (.panic c) (a.put (some d) v) w → Q (.panic c) a w)
    (hy : ∀ o : Oper, o.op = op → ∀ W, (execOp a.eval o).run P W = .ok (.value v) W)
    (h : wpAnyT P md ops Q S n fuel (listed.setIfInBounds i true) (a.put (some d) v) w) : wpAnyT P md ops Q S n (fuel + 1) listed a w := by
  cases ho : ops[i]? with
  | none => rw [ho] at hk; cases hk
  | some o =>
    rw [ho] at hk
    injection hk with hk
    injection hk with h1 h2
    injection h2 with h2 h3
    rw [← h1] at h hQ
    exact wpAnyT_first (fun _ => True) ho (Region.noSelect_spec hs) hQ (fun _ _ hi => absurd hi (Nat.not_lt.2 hn)) (fun _ _ _ _ _ _ => trivial) fuel listed a w (Region.free_spec ho hf) (by simpa using hr) (.inl ⟨h3, fun W _ => hy o h2 W⟩) trivial h

def AllReadyT (P : Program) (md : Region.Mode) (ops : Array Oper) (Q : Exit → Act → World → Prop) (S : World → Prop) (n : Nat) (fuel : Nat) (listed : Array Bool) (a : Act) (w : World) (rs : List Nat) : Prop :=
  ∀ i ∈ rs, wpOp P ops Q i (fun a' w' => (i < n → S w') ∧ wpAnyT P md ops Q S n fuel (listed.setIfInBounds i true) a' w') a w
theorem AllReadyT.nil {fuel : Nat} {listed : Array Bool} {a : Act} {w : World} : AllReadyT P md ops Q S n fuel listed a w [] := fun _ h => by cases h
theorem AllReadyT.cons {fuel : Nat} {listed : Array Bool} {a : Act} {w : World} {i : Nat} {o : Oper} {rs : List Nat} (ho : ops[i]? = some o)
    (h : ∀ K' : Act → World → Prop, Shut (∀ a w, (i < n → S w) → wpAnyT P md ops Q S n fuel (listed.setIfInBounds i true) a w → K' a w) → if Region.wanted o (yielded ops a.tmps) = true then Oper.wp P o a w K' Q else K' (a.put o.dst undef) w)
    (hs : AllReadyT P md ops Q S n fuel listed a w rs) : AllReadyT P md ops Q S n fuel listed a w (i :: rs) := fun j hj => by
  rcases List.mem_cons.1 hj with rfl | hj
  · exact wpOp_step ho (fun K' hK => h K' (fun a w hS hW => hK a w ⟨hS, hW⟩))
  · exact hs j hj
theorem wpAnyT_ready {rs : List Nat} {fuel : Nat} {listed : Array Bool} {a : Act} {w : World} (hr : Region.ready md ops listed = rs) (hne : rs ≠ [])
    (h : AllReadyT P md ops Q S n fuel listed a w rs) : wpAnyT P md ops Q S n (fuel + 1) listed a w := ⟨fun h0 => absurd (hr ▸ h0) hne, hr ▸ h⟩
theorem wpAnyT_done {listed : Array Bool} {a : Act} {w : World} (hr : Region.ready md ops listed = []) (h : Q .normal a w) :
    ∀ fuel, wpAnyT P md ops Q S n fuel listed a w
  | 0 => ⟨hr, h⟩
  | _ + 1 => ⟨fun _ => h, by rw [hr]; simp⟩
theorem wp_region_T (S : World → Prop) (n : Nat) {id : Nat} {a : Act} {w : World} (hm : P.follows .mixedOrders = true)
    (h : wpAnyT P .any ops Q S n ops.size (Array.replicate ops.size false) a w.drew) : (Code.region id ops true).wp P Q a w :=
  wp_region_any hm (wpAny_of_T _ _ _ _ h)
end
end Go.Proofs.YtnhlachoimlhhaaGreatDoor

namespace Go.Proofs.YtnhlachoimlhhaaGreatDoor
open Go.ChangeShapes Go.WideShapes Go.ChangeAt Go.RowKit
set_option linter.unusedVariables false
set_option linter.unusedSimpArgs false

/-- What is asked for, of the first k features. -/
def rnF (k : Nat) : Nat := if k = 0 then 1 else if k = 1 then 3 else if k = 2 then 6 else 8
def NgS.rnAsks (s : NgS) : Nat → List M.Opt
  | 0 => []
  | k + 1 => s.rnAsks k ++ (if s.want (rnF k : Int) = [] then [] else [⟨32, UInt8.ofNat (rnF k) :: s.want (rnF k : Int)⟩])
theorem NgS.rnAsks_all (s : NgS) : s.rnAsks 4 = s.asks := by
  simp [NgS.rnAsks, NgS.asks, NgS.ask, rnF]
theorem NgS.rnAsks_len (s : NgS) (k : Nat) : (s.rnAsks k).length ≤ k := by
  induction k with
  | zero => simp [NgS.rnAsks]
  | succ k ih =>
    unfold NgS.rnAsks
    rw [List.length_append]
    split <;> simp <;> omega
theorem rn_cell {s : NgS} {due : Value} {C : Nat} {w : World} (h : RnAt s due C w) (k : Nat) (hk : k < 4) : w.cell? ⟨C, 1 + rnF k, none⟩ = some (.string (str (s.want (rnF k : Int)))) ∧ rnF k < 9 := by
  have : k = 0 ∨ k = 1 ∨ k = 2 ∨ k = 3 := by omega
  rcases this with rfl | rfl | rfl | rfl
  · exact ⟨BlkIs.cell h 2, by decide⟩
  · exact ⟨BlkIs.cell h 4, by decide⟩
  · exact ⟨BlkIs.cell h 7, by decide⟩
  · exact ⟨BlkIs.cell h 9, by decide⟩
theorem rn_feat {B : Nat} {w : World} (h : BlkIs rnFeats 3 B w) (k : Nat) (hk : k < 4) : w.cell? ⟨B, k, none⟩ = some (.int .i64 (rnF k : Int)) := by
  have : k = 0 ∨ k = 1 ∨ k = 2 ∨ k = 3 := by omega
  rcases this with rfl | rfl | rfl | rfl
  · exact h.cell 0
  · exact h.cell 1
  · exact h.cell 2
  · exact h.cell 3
set_option maxHeartbeats 4000000 in
set_option maxRecDepth 100000 in
theorem rnOpts_any (s : NgS) (os : List M.Opt) (v : Value) (C : Nat) (w : World) (h : RnAt s v C w) (hr : OpRow v os w) (hok : s.Ok) (hlen : os.length ≤ 1000000) :
    Calls Tryz.prog 23 #[.pointer (some ⟨C, 0, none⟩)] w fun e w' => ∃ v', e = .returned v' ∧ OpRow v' (os ++ s.asks) w' ∧ RnAt s (.slice none 0 0) C w' ∧ Kept (C :: ownB v) w w' ∧ (∀ g, v'.ownBlock = some g → v.ownBlock = some g ∨ w.heap.size ≤ g) := by
  have hne : v.ownBlock ≠ some C := hr.blk h (by decide)
  have fc : w.cell? ⟨C, 37, none⟩ = some v := BlkIs.cell h 37
  have ff := BlkIs.free h 37
  obtain ⟨w1, hw1⟩ : ∃ X, w.setCell ⟨C, 37, none⟩ (.slice none 0 0) = X := ⟨_, rfl⟩
  have hk1 : Kept [C] w w1 := by rw [← hw1]; exact (Kept.refl [C] w).setCell (.inl (by simp)) _
  have ha1 : RnAt s (.slice none 0 0) C w1 := by rw [← hw1]; exact BlkIs.set h 37 (.slice none 0 0)
  have hr1 : OpRow v os w1 := hr.kept hk1 (fun g hg hm => by
    rw [List.mem_singleton.1 hm] at hg
    exact hne hg)
  obtain ⟨w2, hw2⟩ : ∃ X, w1.alloc (.cells rnFeats 3) = X := ⟨_, rfl⟩
  obtain ⟨B, hB⟩ : ∃ B, w1.heap.size = B := ⟨_, rfl⟩
  have HF : Hid (∀ W, W = w1 → Calls Tryz.prog 63 #[] W fun e w' => e = .returned (.slice (some ⟨B, 0, none⟩) 4 4) ∧ w' = w2) := Lib.hid (fun W hW => by rw [hW, ← hw2, ← hB]; exact rnFeatures_any w1)
  have HK1 := Lib.hid hk1
  have HA1 := Lib.hid ha1
  have HR2 : Hid (OpRow v os w2) := Lib.hid (by rw [← hw2]; exact hr1.kept (S := []) ((Kept.refl [] w1).alloc _) (fun _ _ h => by cases h))
  have HK2 : Hid (Kept (ownB v) w1 w2) := Lib.hid (by rw [← hw2]; exact (Kept.refl _ w1).alloc _)
  have HB2 : Hid (BlkIs rnFeats 3 B w2) := Lib.hid (by rw [← hw2, ← hB]; exact BlkIs.new _ _ _)
  have HBV : Hid (v.ownBlock ≠ some B) := Lib.hid (fun hb => by have := hr1.lt B hb; omega)
  have HWL := Lib.hid hok.want_len
  have HLEN := Lib.hid hlen
  have HAL := Lib.hid s.rnAsks_all
  have HNE := Lib.hid hne
  have HSZ : Hid (w.heap.size ≤ B) := Lib.hid (by rw [← hB]; exact hk1.size)
  have HB1 := Lib.hid hB
  have HW1 := Lib.hid hw1
  clear h hr hne hok hlen hk1 ha1 hr1 hw2 hB hw1
  go_enter Tryz.func23, Tryz.ntmps23
  go_upto_region 3 with fail
  rw [HW1.out]
  clear fc ff
  go_wp2_with (go_at_call 63; (with_reducible refine (HF.out _ rfl).mono ?_); rintro e wq ⟨rfl, rfl⟩)
  clear HF
  go_loopw [3, 15] (fun u iv wr => ∃ k : Nat, iv = .int .i64 (k : Int) ∧ k ≤ 4 ∧ Hid (OpRow u (os ++ s.rnAsks k) wr) ∧ Hid (Kept (ownB v) w1 wr) ∧ Hid (BlkIs rnFeats 3 B wr) ∧ Hid (∀ g, u.ownBlock = some g → v.ownBlock = some g ∨ B < g)) (fun _ iv _ => 4 - (intOf iv).toNat)
  case atStart => exact ⟨0, rfl, by decide, Lib.hid (by simpa [NgS.rnAsks] using HR2.out), HK2, HB2, Lib.hid (fun g hg => .inl hg)⟩
  case round =>
    clear HR2 HK2 HB2
    obtain ⟨k, rfl, hk, hg, hwr, hbr, hown⟩ := hrel
    by_cases hk4 : k < 4
    · have d4 : decide ((k : Int) < 4) = true := decide_eq_true (by omega)
      have k00 : (0 : Int) ≤ (k : Int) := by omega
      have k04 : (k : Int) < 4 := by omega
      have hat : RnAt s (.slice none 0 0) C wr := BlkIs.kept HA1.out hwr.out (fun hm => HNE.out (mem_ownB.1 hm))
      have HAT := Lib.hid hat
      obtain ⟨hcl, hF9⟩ := rn_cell hat k hk4
      have hfe := rn_feat hbr.out k hk4
      have HTO : Hid (s.rnAsks (k + 1) = s.rnAsks k ++ (if s.want (rnF k : Int) = [] then [] else [⟨32, UInt8.ofNat (rnF k) :: s.want (rnF k : Int)⟩])) := Lib.hid rfl
      have hql := HWL.out (rnF k : Int)
      clear hat
      obtain ⟨F, hF⟩ : ∃ F, rnF k = F := ⟨_, rfl⟩
      rw [hF] at hcl hF9 hfe HTO hql
      obtain ⟨q, hq⟩ : ∃ q, s.want (F : Int) = q := ⟨_, rfl⟩
      rw [hq] at hcl HTO hql
      clear hF hq
      have F00 : (0 : Int) ≤ (F : Int) := by omega
      have F09 : (F : Int) < 9 := by omega
      by_cases hne : q = []
      · have HTO2 : Hid (s.rnAsks (k + 1) = s.rnAsks k) := Lib.hid (by rw [HTO.out, if_pos hne, List.append_nil])
        subst hne
        have e : str [] = ⟨#[]⟩ := rfl
        rw [e] at hcl
        clear HTO
        go_wp2
        refine ⟨⟨k + 1, by go_num, by omega, Lib.hid ?_, hwr, hbr, hown⟩, ?_⟩
        · rw [HTO2.out]
          exact hg.out
        · simp [intOf]; omega
      · have HTO2 : Hid (s.rnAsks (k + 1) = s.rnAsks k ++ [⟨32, UInt8.ofNat F :: q⟩]) := Lib.hid (by rw [HTO.out, if_neg hne])
        have hem := str_ne hne
        have HLL : Hid ((os ++ s.rnAsks k).length ≤ 1073741824) := Lib.hid (by have := s.rnAsks_len k; have := HLEN.out; rw [List.length_append]; omega)
        have hsz : ¬ 9223372036854775807 < (str [UInt8.ofNat F]).size + (str q).size := by
          have e1 : (str q).size = q.length := rfl
          have e2 : (str [UInt8.ofNat F]).size = 1 := rfl
          omega
        have hap : str [UInt8.ofNat F] ++ str q = str (UInt8.ofNat F :: q) := str_append _ _
        obtain ⟨xf, hxf⟩ : ∃ x, str [UInt8.ofNat F] = x := ⟨_, rfl⟩
        obtain ⟨xq, hxq⟩ : ∃ x, str q = x := ⟨_, rfl⟩
        obtain ⟨xy, hxy⟩ : ∃ x, str (UInt8.ofNat F :: q) = x := ⟨_, rfl⟩
        have HXY := Lib.hid hxy
        rw [hxf, hxq] at hsz hap
        rw [hxy] at hap
        rw [hxq] at hem hcl
        have r2 : IntKind.u8.wrap (F : Int) = (F : Int) := by rw [IntKind.wrap_u8]; omega
        have HCV : Hid (∀ W : World, (convert 90 9 (.slice (some ⟨W.heap.size, 0, none⟩) 1 1)).run Tryz.prog (W.alloc (.cells #[.int .u8 (F : Int)] 5)) = .ok (.string xf) (W.alloc (.cells #[.int .u8 (F : Int)] 5))) := Lib.hid (fun W => by rw [← hxf]; exact conv_one F (by omega) W)
        clear hne hxf hxq hxy HTO hql
        go_upto_region 7 with fail
        have HG9 := Lib.hid (hg.out.kept ((Kept.refl [] wr).drewN 1) (fun _ _ h => by cases h))
        have HW9 := Lib.hid (hwr.out.drewN 1)
        have HB9 := Lib.hid (hbr.out.drewN 1)
        change Hid (OpRow _ _ wr.drew) at HG9
        change Hid (Kept _ _ wr.drew) at HW9
        change Hid (BlkIs _ _ _ wr.drew) at HB9
        clear hg hwr hbr
        refine wp_region_T (fun W => RnAt s (.slice none 0 0) C W) 16 (by kernel_rfl) ?_
        have hS := (show RnAt s (.slice none 0 0) C wr.drew from BlkIs.drewN HAT.out 1)
        generalize wr.drew = Wd at hS HG9 HW9 HB9 ⊢
        refine wpAnyT_takeK (i := 0) (d := 26) (Op.move (Operand.tmp 3)) (u3) (by kernel_rfl) (by kernel_rfl) (by kernel_rfl) (by kernel_rfl) (by kernel_rfl) (fun _ _ _ h => h) ?_ hS ?_
        · intro o ho W hW
          unfold execOp
          rw [ho]
          go_simp
        try simp only [Act.put, List.setIfInBounds_toArray, List.set_cons_zero, List.set_cons_succ]
        refine wpAnyT_takeK (i := 1) (d := 27) (Op.move (Operand.tmp 5)) (.int .i64 F) (by kernel_rfl) (by kernel_rfl) (by kernel_rfl) (by kernel_rfl) (by kernel_rfl) (fun _ _ _ h => h) ?_ hS ?_
        · intro o ho W hW
          unfold execOp
          rw [ho]
          go_simp
        try simp only [Act.put, List.setIfInBounds_toArray, List.set_cons_zero, List.set_cons_succ]
        refine wpAnyT_takeK (i := 2) (d := 28) (Op.convert 3 5 (Operand.tmp 27)) (.int .u8 F) (by kernel_rfl) (by kernel_rfl) (by kernel_rfl) (by kernel_rfl) (by kernel_rfl) (fun _ _ _ h => h) ?_ hS ?_
        · intro o ho W hW
          unfold execOp
          rw [ho]
          go_simp
          (try rfl)
        try simp only [Act.put, List.setIfInBounds_toArray, List.set_cons_zero, List.set_cons_succ]
        refine wpAnyT_takeK (i := 5) (d := 31) (Op.move (Operand.tmp 0)) (.pointer (some ⟨C, 0, none⟩)) (by kernel_rfl) (by kernel_rfl) (by kernel_rfl) (by kernel_rfl) (by kernel_rfl) (fun _ _ _ h => h) ?_ hS ?_
        · intro o ho W hW
          unfold execOp
          rw [ho]
          go_simp
        try simp only [Act.put, List.setIfInBounds_toArray, List.set_cons_zero, List.set_cons_succ]
        refine wpAnyT_takeK (i := 6) (d := 32) (Op.move (Operand.tmp 5)) (.int .i64 F) (by kernel_rfl) (by kernel_rfl) (by kernel_rfl) (by kernel_rfl) (by kernel_rfl) (fun _ _ _ h => h) ?_ hS ?_
        · intro o ho W hW
          unfold execOp
          rw [ho]
          go_simp
        try simp only [Act.put, List.setIfInBounds_toArray, List.set_cons_zero, List.set_cons_succ]
        refine wpAnyT_takeK (i := 7) (d := 33) (Op.nilCheck (Operand.tmp 31)) (.pointer (some ⟨C, 0, none⟩)) (by kernel_rfl) (by kernel_rfl) (by kernel_rfl) (by kernel_rfl) (by kernel_rfl) (fun _ _ _ h => h) ?_ hS ?_
        · intro o ho W hW
          unfold execOp
          rw [ho]
          go_simp
          (try rfl)
        try simp only [Act.put, List.setIfInBounds_toArray, List.set_cons_zero, List.set_cons_succ]
        refine wpAnyT_takeK (i := 8) (d := 34) (Op.fieldAddr 41 (Operand.tmp 33) 1) (.pointer (some ⟨C, 1, none⟩)) (by kernel_rfl) (by kernel_rfl) (by kernel_rfl) (by kernel_rfl) (by kernel_rfl) (fun _ _ _ h => h) ?_ hS ?_
        · intro o ho W hW
          unfold execOp
          rw [ho]
          go_simp
          (try rfl)
        try simp only [Act.put, List.setIfInBounds_toArray, List.set_cons_zero, List.set_cons_succ]
        refine wpAnyT_takeK (i := 9) (d := 35) (Op.indexAddr 39 (Operand.tmp 34) (Operand.tmp 32)) (.pointer (some ⟨C, 1 + F, none⟩)) (by kernel_rfl) (by kernel_rfl) (by kernel_rfl) (by kernel_rfl) (by kernel_rfl) (fun _ _ _ h => h) ?_ hS ?_
        · intro o ho W hW
          unfold execOp
          rw [ho]
          go_simp
          (try rfl)
        try simp only [Act.put, List.setIfInBounds_toArray, List.set_cons_zero, List.set_cons_succ]
        refine wpAnyT_takeK (i := 10) (d := 36) (Op.load 9 (Operand.tmp 35)) (.string xq) (by kernel_rfl) (by kernel_rfl) (by kernel_rfl) (by kernel_rfl) (by kernel_rfl) (fun _ _ _ h => h) ?_ hS ?_
        · intro o ho W hW
          have c : W.cell? ⟨C, 1 + F, none⟩ = some (.string xq) := by
            have e1 := hcl
            rw [show wr.cell? ⟨C, 1 + F, none⟩ = W.cell? ⟨C, 1 + F, none⟩ from ((BlkIs.cell HAT.out _).trans (BlkIs.cell hW _).symm)] at e1
            exact e1
          unfold execOp
          rw [ho]
          go_simp
          (try rfl)
        try simp only [Act.put, List.setIfInBounds_toArray, List.set_cons_zero, List.set_cons_succ]
        refine wpAnyT_ready (rs := [3]) (by kernel_rfl) (by simp) ?_
        refine (AllReadyT.cons (o := { dst := some 29, op := Op.buildSlice 90 1 #[(0, Operand.tmp 28)], type := 90, pos := "ref.go:149", after := #[{ on := 2, ground := Ground.data }], guard := none }) (by kernel_rfl) (fun K hK => ?_) AllReadyT.nil)
        have hcv := HCV.out Wd
        go_simp
        refine hK.out _ _ (fun _ => BlkIs.alloc hS _) ?_
        replace hS := BlkIs.alloc hS (.cells #[.int .u8 (F : Int)] 5)
        clear hK K
        try simp only [Act.put, List.setIfInBounds_toArray, List.set_cons_zero, List.set_cons_succ]
        refine wpAnyT_ready (rs := [4]) (by kernel_rfl) (by simp) ?_
        refine (AllReadyT.cons (o := { dst := some 30, op := Op.convert 90 9 (Operand.tmp 29), type := 9, pos := "ref.go:149", after := #[{ on := 3, ground := Ground.data }], guard := none }) (by kernel_rfl) (fun K hK => ?_) AllReadyT.nil)
        go_simp
        refine hK.out _ _ (fun _ => hS) ?_
        clear hK K
        try simp only [Act.put, List.setIfInBounds_toArray, List.set_cons_zero, List.set_cons_succ]
        refine wpAnyT_takeK (i := 11) (d := 37) (Op.binOp BinOp.add 9 (Operand.tmp 30) (Operand.tmp 36) 9) (.string xy) (by kernel_rfl) (by kernel_rfl) (by kernel_rfl) (by kernel_rfl) (by kernel_rfl) (fun _ _ _ h => h) ?_ hS ?_
        · intro o ho W hW
          unfold execOp
          rw [ho]
          go_simp
          (try rfl)
        try simp only [Act.put, List.setIfInBounds_toArray, List.set_cons_zero, List.set_cons_succ]
        refine wpAnyT_takeK (i := 12) (d := 38) (Op.build 106 #[(0, Operand.const (Value.int IntKind.i64 32)), (1, Operand.tmp 37)]) (.agg #[.int .i64 32, .string xy]) (by kernel_rfl) (by kernel_rfl) (by kernel_rfl) (by kernel_rfl) (by kernel_rfl) (fun _ _ _ h => h) ?_ hS ?_
        · intro o ho W hW
          unfold execOp
          rw [ho]
          go_simp
          (try rfl)
        try simp only [Act.put, List.setIfInBounds_toArray, List.set_cons_zero, List.set_cons_succ]
        refine wpAnyT_ready (rs := [13]) (by kernel_rfl) (by simp) ?_
        refine (AllReadyT.cons (o := { dst := some 39, op := Op.buildSlice 28 1 #[(0, Operand.tmp 38)], type := 28, pos := "ref.go:149", after := #[{ on := 12, ground := Ground.data }], guard := none }) (by kernel_rfl) (fun K hK => ?_) AllReadyT.nil)
        go_simp
        refine hK.out _ _ (fun _ => BlkIs.alloc hS _) ?_
        clear hK K
        try simp only [Act.put, List.setIfInBounds_toArray, List.set_cons_zero, List.set_cons_succ]
        refine wpAnyT_ready (rs := [14]) (by kernel_rfl) (by simp) ?_
        refine (AllReadyT.cons (o := { dst := some 40, op := Op.call { callee := Callee.builtin Builtin.append, args := #[Operand.tmp 26, Operand.tmp 39], argTypes := #[28, 28] }, type := 28, pos := "ref.go:149", after := #[{ on := 0, ground := Ground.data }, { on := 13, ground := Ground.data }], guard := none }) (by kernel_rfl) (fun K hK => ?_) AllReadyT.nil)
        refine step_optA rfl _ _ rfl u3 (os ++ s.rnAsks k) rfl (Wd.alloc (.cells #[.int .u8 (F : Int)] 5)) ⟨32, UInt8.ofNat F :: q⟩ (by show _ = World.alloc _ (.cells #[.int .i64 32, .string (str (UInt8.ofNat F :: q))] _); rw [HXY.out]) (HG9.out.kept (S := []) ((Kept.refl [] Wd).alloc _) (fun _ _ h => by cases h)) (Wd.heap.size + 1) (by simp) rfl HLL.out ?_
        intro gx cx w9 ho9 hk9 hat9
        have HO9 := Lib.hid ho9
        have HK9 := Lib.hid hk9
        have HT9 := Lib.hid hat9
        clear ho9 hk9 hat9
        refine hK.out _ _ (fun _ => BlkIs.kept hS HK9.out (fun hm => ?_)) ?_
        · exact absurd (mem_ownB.1 hm) (fun e => by rcases hown.out C e with h | h; exact HNE.out h; have h1 := BlkIs.lt HA1.out; have h2 := HB1.out; omega)
        replace hS : RnAt s (.slice none 0 0) C w9 := BlkIs.kept hS HK9.out (fun hm => absurd (mem_ownB.1 hm) (fun e => by rcases hown.out C e with h | h; exact HNE.out h; have h1 := BlkIs.lt HA1.out; have h2 := HB1.out; omega))
        clear hK K
        try simp only [Act.put, List.setIfInBounds_toArray, List.set_cons_zero, List.set_cons_succ]
        refine wpAnyT_takeK (i := 15) (d := 3) (Op.assign (Operand.tmp 40)) (.slice (some ⟨gx, 0, none⟩) ((os ++ s.rnAsks k).length + 1) cx) (by kernel_rfl) (by kernel_rfl) (by kernel_rfl) (by kernel_rfl) (by kernel_rfl) (fun _ _ _ h => h) ?_ hS ?_
        · intro o ho W hW
          unfold execOp
          rw [ho]
          go_simp
        try simp only [Act.put, List.setIfInBounds_toArray, List.set_cons_zero, List.set_cons_succ]
        refine wpAnyT_done (by kernel_rfl) ?_ _
        go_wp2
        have hsz9 : B < Wd.heap.size := BlkIs.lt HB9.out
        refine ⟨⟨k + 1, by go_num, by omega, Lib.hid ?_, Lib.hid ?_, Lib.hid ?_, Lib.hid fun g h2 => ?_⟩, ?_⟩
        · rw [HTO2.out, ← List.append_assoc]
          exact HO9.out
        · refine (HW9.out.alloc _).trans HK9.out (fun x hx => ?_)
          rcases hown.out x (mem_ownB.1 hx) with h | h
          · exact .inl (mem_ownB.2 h)
          · exact .inr (by have := HB1.out; omega)
        · exact (HB9.out.alloc _).kept HK9.out (fun hm => by
            rcases hown.out B (mem_ownB.1 hm) with h | h
            · exact HBV.out h
            · omega)
        · have e2 : gx = g := by simpa [Value.ownBlock] using h2
          subst e2
          rcases HT9.out with h | h
          · exact hown.out gx h
          · exact .inr (by
              have e3 : (Wd.alloc (.cells #[.int .u8 (F : Int)] 5)).heap.size = Wd.heap.size + 1 := by simp
              omega)
        · simp [intOf]; omega
    · obtain rfl : k = 4 := by omega
      rw [HAL.out] at hg
      go_wp2
      go_ret
      refine ⟨_, rfl, hg.out, BlkIs.kept HA1.out hwr.out (fun hm => HNE.out (mem_ownB.1 hm)), (HK1.out.more (fun x hx => ?_)).trans' (hwr.out.more fun x hx => List.mem_cons_of_mem _ hx), fun g hg => (hown.out g hg).imp id fun h => by have := HSZ.out; omega⟩
      rw [List.mem_singleton.1 hx]
      simp
end Go.Proofs.YtnhlachoimlhhaaGreatDoor

namespace Go.Proofs.YtnhlachoimlhhaaGreatDoor
open Go.ChangeShapes Go.WideShapes Go.ChangeAt Go.RowKit
set_option linter.unusedVariables false
set_option linter.unusedSimpArgs false

/-- From what is held to what is held, the row of answers may move. -/
def RnTo (s : NgS) (os : List M.Opt) (C : Nat) (v : Value) (w w' : World) : Prop :=
  ∃ v', OpRow v' os w' ∧ RnAt s v' C w' ∧ Kept (C :: ownB v) w w' ∧ (∀ g, v'.ownBlock = some g → v.ownBlock = some g ∨ w.heap.size ≤ g)
theorem RnTo.kept {s : NgS} {os : List M.Opt} {C : Nat} {v : Value} {w w' : World} (hr : OpRow v os w) (h : RnAt s v C w') (k : Kept [C] w w') (hne : v.ownBlock ≠ some C) : RnTo s os C v w w' :=
  ⟨v, hr.kept k (fun g hg hm => by
    rw [List.mem_singleton.1 hm] at hg
    exact hne hg), h, k.more (fun x hx => by
    rw [List.mem_singleton.1 hx]
    simp), fun g hg => .inl hg⟩
theorem RnTo.same {s : NgS} {os : List M.Opt} {C : Nat} {v : Value} {w w' : World} (h : RnAt s v C w) (hr : OpRow v os w) (k : Kept [] w w') : RnTo s os C v w w' :=
  RnTo.kept hr (BlkIs.kept h k (fun hm => by cases hm)) (k.more (fun x hx => by cases hx)) (hr.blk h (by decide))
theorem RnTo.trans {s3 : NgS} {os3 : List M.Opt} {C : Nat} {v v2 : Value} {w w2 w3 : World} (k : Kept (C :: ownB v) w w2) (ho : ∀ g, v2.ownBlock = some g → v.ownBlock = some g ∨ w.heap.size ≤ g) (h : RnTo s3 os3 C v2 w2 w3) : RnTo s3 os3 C v w w3 := by
  obtain ⟨v3, a, b, c, d⟩ := h
  refine ⟨v3, a, b, k.trans c (fun x hx => ?_), fun g hg => ?_⟩
  · rcases List.mem_cons.1 hx with rfl | hx
    · exact .inl (by simp)
    · rcases ho x (mem_ownB.1 hx) with h | h
      · exact .inl (List.mem_cons_of_mem _ (mem_ownB.2 h))
      · exact .inr h
  · rcases d g hg with h | h
    · exact ho g h
    · exact .inr (Nat.le_trans k.size h)
theorem rnAnswer_end {s : NgS} {os : List M.Opt} {v v2 : Value} {p : M.Opt} {C : Nat} {w w1 w9 : World} (hne : v.ownBlock ≠ some C) (k1 : Kept [C] w w1) (h9 : RnAt s v C w9) (ho : OpRow v2 (os ++ [p]) w9) (k9 : Kept (ownB v) w1 w9) (hat : v2.ownBlock = v.ownBlock ∨ v2.ownBlock = some (w1.heap.size + 1)) :
    RnTo s (os ++ [p]) C v w (w9.setCell ⟨C, 37, none⟩ v2) := by
  have kc : Kept [C] w9 (w9.setCell ⟨C, 37, none⟩ v2) := (Kept.refl [C] w9).setCell (.inl (by simp)) _
  have hgC : v2.ownBlock ≠ some C := ho.blk h9 (by decide)
  refine ⟨_, ho.kept kc (fun q hq hm => ?_), BlkIs.set h9 37 _, ((k1.more (fun x hx => by rw [List.mem_singleton.1 hx]; simp)).trans' (k9.more (fun x hx => List.mem_cons_of_mem _ hx))).trans' (kc.more (fun x hx => ?_)), fun q hq => ?_⟩
  · rw [List.mem_singleton.1 hm] at hq
    exact hgC hq
  · rw [List.mem_singleton.1 hx]
    simp
  · rcases hat with h | h
    · exact .inl (h ▸ hq)
    · rw [h] at hq
      injection hq with hq
      have := k1.size
      exact .inr (by omega)
theorem OpRow.shape {v : Value} {os : List M.Opt} {w : World} (h : OpRow v os w) (hn : v ≠ .slice none 0 0) : ∃ g cap, v = .slice (some ⟨g, 0, none⟩) os.length cap := by
  rcases h.2 with ⟨rfl, _⟩ | ⟨g, cap, cur, rfl, _⟩
  · exact absurd rfl hn
  · exact ⟨g, cap, rfl⟩
theorem rn_known {F : Nat} {l : List UInt8} (hm : ftMay (F : Int) l = true) : F = 1 ∨ F = 3 ∨ F = 6 ∨ F = 8 := by
  rcases ft_kinds (F : Int) with h | h | h | h | ⟨h1, h3, h6, h8⟩
  · exact .inl (by omega)
  · exact .inr (.inl (by omega))
  · exact .inr (.inr (.inl (by omega)))
  · exact .inr (.inr (.inr (by omega)))
  · unfold ftMay at hm
    rw [if_neg h3, ftSpan_out h1 h6 h8] at hm
    cases hm
theorem rn_like {s : NgS} {due : Value} {C : Nat} {w : World} (h : RnAt s due C w) {F : Nat} (hF : F = 1 ∨ F = 3 ∨ F = 6 ∨ F = 8) : w.cell? ⟨C, 10 + F, none⟩ = some (.string (str (s.like (F : Int)))) := by
  rcases hF with rfl | rfl | rfl | rfl
  · exact BlkIs.cell h 11
  · exact BlkIs.cell h 13
  · exact BlkIs.cell h 16
  · exact BlkIs.cell h 18
theorem rn_theirs {s : NgS} {due : Value} {C : Nat} {w : World} (h : RnAt s due C w) {F : Nat} (hF : F = 1 ∨ F = 3 ∨ F = 6 ∨ F = 8) : w.cell? ⟨C, 28 + F, none⟩ = some (.string (str (s.theirs (F : Int)))) := by
  rcases hF with rfl | rfl | rfl | rfl
  · exact BlkIs.cell h 29
  · exact BlkIs.cell h 31
  · exact BlkIs.cell h 34
  · exact BlkIs.cell h 36
theorem rn_set {s : NgS} {due : Value} {C : Nat} {w : World} (h : RnAt s due C w) {F : Nat} (hF : F = 1 ∨ F = 3 ∨ F = 6 ∨ F = 8) (x : List UInt8) : RnAt { s with theirs := upd s.theirs (F : Int) x } due C (w.setCell ⟨C, 28 + F, none⟩ (.string (str x))) := by
  have h9 := BlkIs.set h (28 + F) (.string (str x))
  unfold RnAt
  rw [show rnCells { s with theirs := upd s.theirs (F : Int) x } due = (rnCells s due).setIfInBounds (28 + F) (.string (str x)) by
    rcases hF with rfl | rfl | rfl | rfl <;> simp [rnCells, upd, sV]]
  exact h9
set_option maxHeartbeats 8000000 in
set_option maxRecDepth 100000 in
theorem rnChange_any (s : NgS) (os : List M.Opt) (v : Value) (b : UInt8) (l : List UInt8) (hl : l.length ≤ 9223372036854775807) (must : Bool) (hok : s.Ok) (C : Nat) (w : World) (h : RnAt s v C w) (hr : OpRow v os w) (hlen : os.length ≤ 1000000) :
    Calls Tryz.prog 72 #[.pointer (some ⟨C, 0, none⟩), .int .i64 (b.toNat : Int), .string (str l), .bool must] w fun e w' => e = .returned (.bool (s.pick (b.toNat : Int) l).isSome) ∧ RnTo (s.settled (b.toNat : Int) l) (if (s.pick (b.toNat : Int) l).isSome = true ∨ must = false then os ++ [⟨35, b :: s.says (b.toNat : Int) l⟩] else os) C v w w' := by
  have hne : v.ownBlock ≠ some C := hr.blk h (by decide)
  have HNE := Lib.hid hne
  have HLL : Hid (os.length ≤ 1073741824) := Lib.hid (by omega)
  obtain ⟨F, hF⟩ : ∃ F, b.toNat = F := ⟨_, rfl⟩
  have hF9 : F < 256 := by rw [← hF]; exact b.toNat_lt
  have hbF : UInt8.ofNat F = b := by rw [← hF]; simp
  rw [hF]
  obtain ⟨xo, hxo⟩ : ∃ x, str [b] = x := ⟨_, rfl⟩
  have HXO := Lib.hid hxo
  have hcv := conv_one F hF9 w
  rw [hbF, hxo] at hcv
  have r2 : IntKind.u8.wrap (F : Int) = (F : Int) := by rw [IntKind.wrap_u8]; omega
  have HM := Lib.hid (fun W => rfMay_any (F : Int) l hl W)
  have HH := Lib.hid h
  have HR0 := Lib.hid hr
  have HOS : Hid (xo.size = 1) := Lib.hid (by rw [← hxo]; rfl)
  clear hF hbF hxo hne h hr hlen
  cases hm : ftMay (F : Int) l with
  | false =>
    have hp : s.pick (F : Int) l = none := by unfold NgS.pick; rw [hm]; rfl
    have hst : s.settled (F : Int) l = s := by unfold NgS.settled; rw [hp]
    have hsa : s.says (F : Int) l = [] := by unfold NgS.says; rw [hp]
    rw [hp, hst, hsa]
    rw [hm] at HM
    clear hp hst hsa hm hok
    generalize str l = xl at *
    cases must with
    | true =>
      rw [if_neg (by simp)]
      go_enter Tryz.func72, Tryz.ntmps72
      go_wp2_with (go_at_call 69; (with_reducible refine (HM.out _).mono ?_); rintro e w1 ⟨rfl, n1, rfl⟩)
      go_ret
      exact ⟨rfl, RnTo.same HH.out HR0.out (((Kept.refl [] w).alloc _).drewN _)⟩
    | false =>
      rw [if_pos (.inr rfl)]
      go_enter Tryz.func72, Tryz.ntmps72
      go_upto_region 4 with (go_at_call 69; (with_reducible refine (HM.out _).mono ?_); rintro e w1 ⟨rfl, n1, rfl⟩)
      have hka : Kept [] w ((w.alloc (.cells #[.int .u8 (F : Int)] 5)).drewN n1) := ((Kept.refl [] w).alloc _).drewN _
      generalize (w.alloc (.cells #[.int .u8 (F : Int)] 5)).drewN n1 = wa at *
      have HKA := Lib.hid hka
      have HA : Hid (RnAt s v C wa) := Lib.hid (BlkIs.kept HH.out hka (fun hm => by cases hm))
      have HR : Hid (OpRow v os wa) := Lib.hid (HR0.out.kept hka (fun _ _ h => by cases h))
      have c37 : wa.cell? ⟨C, 37, none⟩ = some v := BlkIs.cell HA.out 37
      clear hka hcv HH HR0 HM
      go_wp2_with (at_builtin; refine wp_optA rfl _ _ rfl v os rfl wa _ ⟨35, [b]⟩ (by show _ = World.alloc _ (.cells #[.int .i64 35, .string (str ([b]))] _); rw [HXO.out]) HR.out _ rfl rfl HLL.out ?_; intro v2 w9 ho9 hk9 hat9 hn9; obtain ⟨gx, cx, rfl⟩ := ho9.shape hn9; have hA9 : RnAt s v C w9 := BlkIs.kept HA.out hk9 (fun hm => HNE.out (mem_ownB.1 hm)); have c9 : w9.cell? ⟨C, 37, none⟩ = some v := BlkIs.cell hA9 37; have f9 := BlkIs.free hA9 37; have HO9 := Lib.hid ho9; have HK9 := Lib.hid hk9; have HT9 := Lib.hid hat9; have HA9 := Lib.hid hA9; clear ho9 hk9 hat9 hA9 hn9)
      go_ret
      exact ⟨rfl, rnAnswer_end HNE.out (HKA.out.more (fun x hx => by cases hx)) HA9.out (by have h9 := HO9.out; rw [List.length_append] at h9; exact h9) HK9.out HT9.out⟩
  | true =>
    have hk4 := rn_known hm
    have HK4 := Lib.hid hk4
    have HLK := Lib.hid (hok.like (F : Int))
    have HPL := Lib.hid (fun x => @NgS.pick_len s (F : Int) l x)
    rw [hm] at HM
    have hpk : s.pick (F : Int) l = if s.server = true ∨ ftLst (F : Int) = false then ftChoose (F : Int) (s.like (F : Int)) l else ftChoose (F : Int) l (s.like (F : Int)) := by unfold NgS.pick; rw [if_pos hm]
    have HC1 := Lib.hid (fun W => rfChoose_any (F : Int) (s.like (F : Int)) l (by have := hok.like (F : Int); omega) hl W)
    have HC2 := Lib.hid (fun W => rfChoose_any (F : Int) l (s.like (F : Int)) hl (by have := hok.like (F : Int); omega) W)
    have HLS : Hid (∀ W, Calls Tryz.prog 65 #[.int .i64 (F : Int)] W fun e w' => e = .returned (.bool (ftLst (F : Int))) ∧ W = w') := Lib.hid (fun W => rfList_any (F : Int) W)
    obtain ⟨D1, hD1⟩ : ∃ x, (if (s.pick (F : Int) l).isSome = true ∨ must = false then os ++ [⟨35, b :: s.says (F : Int) l⟩] else os) = x := ⟨_, rfl⟩
    obtain ⟨B1, hB1⟩ : ∃ x, (s.pick (F : Int) l).isSome = x := ⟨_, rfl⟩
    obtain ⟨S1, hS1⟩ : ∃ x, s.settled (F : Int) l = x := ⟨_, rfl⟩
    rw [hD1, hB1, hS1]
    have HD1 := Lib.hid hD1
    have HB1 := Lib.hid hB1
    have HS1 := Lib.hid hS1
    clear hD1 hB1 hS1
    have F00 : (0 : Int) ≤ (F : Int) := by omega
    have F09 : (F : Int) < 9 := by omega
    have h3 : ftLst (F : Int) = false → ftChoose (F : Int) (s.like (F : Int)) l = some l := fun hls => by
      have hF3 : (F : Int) = 3 := by
        rcases hk4 with rfl | rfl | rfl | rfl
        · exact absurd hls (by decide)
        · rfl
        · exact absurd hls (by decide)
        · exact absurd hls (by decide)
      unfold ftChoose
      rw [if_pos hm, if_pos hF3]
    go_enter Tryz.func72, Tryz.ntmps72
    go_upto_region 6 with (go_at_call 69; (with_reducible refine (HM.out _).mono ?_); rintro e w1 ⟨rfl, n1, rfl⟩)
    have hka : Kept [] w ((w.alloc (.cells #[.int .u8 (F : Int)] 5)).drewN n1) := ((Kept.refl [] w).alloc _).drewN _
    generalize (w.alloc (.cells #[.int .u8 (F : Int)] 5)).drewN n1 = wa at *
    have HKA := Lib.hid hka
    have HA : Hid (RnAt s v C wa) := Lib.hid (BlkIs.kept HH.out hka (fun hm => by cases hm))
    have c0 : wa.cell? ⟨C, 0, none⟩ = some (.bool s.server) := BlkIs.cell HA.out 0
    have c10 := rn_like HA.out hk4
    have HPK := Lib.hid hpk
    have H3 := Lib.hid h3
    clear hka hcv HM hm hok hk4 hpk h3
    obtain ⟨r0, hr0⟩ : ∃ r, s.pick (F : Int) l = r := ⟨_, rfl⟩
    have hpk := HPK.out
    rw [hr0] at hpk
    obtain ⟨ls, hls⟩ : ∃ x, ftLst (F : Int) = x := ⟨_, rfl⟩
    obtain ⟨sv, hsv⟩ : ∃ x, s.server = x := ⟨_, rfl⟩
    have h3 := H3.out
    rw [hls] at HLS h3 hpk
    rw [hsv] at c0 hpk
    unfold ftRet at HC1 HC2
    have HSN : Hid (r0 = none → s.settled (F : Int) l = s ∧ s.says (F : Int) l = []) := Lib.hid (fun h => by unfold NgS.settled NgS.says; rw [hr0, h]; exact ⟨rfl, rfl⟩)
    have HSS : Hid (∀ x, r0 = some x → s.settled (F : Int) l = { s with theirs := upd s.theirs (F : Int) x } ∧ s.says (F : Int) l = if ls = true then x ++ s.like (F : Int) else x) := Lib.hid (fun x h => by unfold NgS.settled NgS.says; rw [hr0, h, hls]; exact ⟨rfl, rfl⟩)
    have HR9 := Lib.hid hr0
    have HLS2 := Lib.hid hls
    clear HPK H3 hls hsv hr0
    cases ls with
    | false =>
      have hpk2 := hpk.trans ((if_pos (.inr rfl)).trans (h3 rfl))
      have HPK2 := Lib.hid hpk2
      clear hpk hpk2 h3 HC1 HC2
      go_upto_if 41 with (go_at_call 65; (with_reducible refine (HLS.out _).mono ?_); rintro e wq ⟨rfl, rfl⟩)
      go_cut [10, 11] (fun xv okv wx => xv = .string (str (r0.getD [])) ∧ okv = .bool r0.isSome ∧ Hid (Kept [] w wx))
      case first =>
        go_wp2_with (go_at_call 65; (with_reducible refine (HLS.out _).mono ?_); rintro e wq ⟨rfl, rfl⟩)
        go_meet
        exact ⟨by rw [HPK2.out]; first | done | rfl, by rw [HPK2.out]; first | done | rfl, HKA⟩
      case rest =>
        obtain ⟨rfl, rfl, hk⟩ := hcut
        have HC : Hid (RnAt s v C wc) := Lib.hid (BlkIs.kept HH.out hk.out (fun hm => by cases hm))
        have HRC : Hid (OpRow v os wc) := Lib.hid (HR0.out.kept hk.out (fun _ _ h => by cases h))
        clear HKA HA c0 c10
        cases r0 with
        | none =>
          cases must with
          | true =>
            go_wp2
            go_ret
            refine ⟨by rw [← HB1.out, HR9.out]; rfl, ?_⟩
            rw [← HD1.out, ← HS1.out, HR9.out, if_neg (by simp), (HSN.out (by simp)).1]
            exact RnTo.same HH.out HR0.out hk.out
          | false =>
            have c37 : wc.cell? ⟨C, 37, none⟩ = some v := BlkIs.cell HC.out 37
            go_wp2_with (at_builtin; refine wp_optA rfl _ _ rfl v os rfl wc _ ⟨35, [b]⟩ (by show _ = World.alloc _ (.cells #[.int .i64 35, .string (str ([b]))] _); rw [HXO.out]) HRC.out _ rfl rfl HLL.out ?_; intro v2 w9 ho9 hk9 hat9 hn9; obtain ⟨gx, cx, rfl⟩ := ho9.shape hn9; have hA9 : RnAt s v C w9 := BlkIs.kept HC.out hk9 (fun hm => HNE.out (mem_ownB.1 hm)); have c9 : w9.cell? ⟨C, 37, none⟩ = some v := BlkIs.cell hA9 37; have f9 := BlkIs.free hA9 37; have HO9 := Lib.hid ho9; have HK9 := Lib.hid hk9; have HT9 := Lib.hid hat9; have HA9 := Lib.hid hA9; clear ho9 hk9 hat9 hA9 hn9)
            go_ret
            refine ⟨by rw [← HB1.out, HR9.out]; rfl, ?_⟩
            rw [← HD1.out, ← HS1.out, HR9.out, if_pos (by simp), (HSN.out (by simp)).1, (HSN.out (by simp)).2]
            exact rnAnswer_end HNE.out (hk.out.more (fun x hx => by cases hx)) HA9.out (by have h9 := HO9.out; rw [List.length_append] at h9; exact h9) HK9.out HT9.out
        | some x =>
          obtain ⟨hx1, hx2⟩ := HPL.out x HR9.out
          have c28 := rn_theirs HC.out HK4.out
          have f28 := BlkIs.free HC.out (28 + F)
          go_upto_region 16 with fail
          obtain ⟨wd, hwd⟩ : ∃ X, wc.setCell ⟨C, 28 + F, none⟩ (.string (str x)) = X := ⟨_, rfl⟩
          have HKD : Hid (Kept [C] w wd) := Lib.hid (by rw [← hwd]; exact (hk.out.more (fun x hx => by cases hx)).trans' ((Kept.refl [C] wc).setCell (.inl (by simp)) _))
          have HD : Hid (RnAt ({ s with theirs := upd s.theirs (F : Int) x } : NgS) v C wd) := Lib.hid (by rw [← hwd]; exact rn_set HC.out HK4.out x)
          have HRD : Hid (OpRow v os wd) := Lib.hid (HR0.out.kept HKD.out (fun g hg hm => by
            rw [List.mem_singleton.1 hm] at hg
            exact HNE.out hg))
          rw [show (Option.some x).getD [] = x from rfl] at *
          (try rw [hwd])
          clear hwd c28 f28 HC HRC hk
          obtain ⟨y, hy⟩ : ∃ y, y = x := ⟨_, rfl⟩
          subst hy
          have hyl : y.length ≤ 32 := by omega
          obtain ⟨xy, hxy⟩ : ∃ z, str (b :: y) = z := ⟨_, rfl⟩
          have HXY := Lib.hid hxy
          have hap2 : xo ++ str y = xy := by rw [← hxy, ← HXO.out]; exact str_append _ _
          have hsz2 : ¬ 9223372036854775807 < xo.size + (str y).size := by
            have e1 : (str y).size = y.length := rfl
            have := HOS.out
            omega
          clear hxy
          have c37 : wd.cell? ⟨C, 37, none⟩ = some v := BlkIs.cell HD.out 37
          go_wp2_with (first
            | (go_at_call 65; (with_reducible refine (HLS.out _).mono ?_); rintro e wq ⟨rfl, rfl⟩)
            | (at_builtin; refine wp_optA rfl _ _ rfl v os rfl wd _ ⟨35, b :: y⟩ (by show _ = World.alloc _ (.cells #[.int .i64 35, .string (str (b :: y))] _); rw [HXY.out]) HRD.out _ rfl rfl HLL.out ?_; intro v2 w9 ho9 hk9 hat9 hn9; obtain ⟨gx, cx, rfl⟩ := ho9.shape hn9; have hA9 : RnAt ({ s with theirs := upd s.theirs (F : Int) y } : NgS) v C w9 := BlkIs.kept HD.out hk9 (fun hm => HNE.out (mem_ownB.1 hm)); have c9 : w9.cell? ⟨C, 37, none⟩ = some v := BlkIs.cell hA9 37; have f9 := BlkIs.free hA9 37; have HO9 := Lib.hid ho9; have HK9 := Lib.hid hk9; have HT9 := Lib.hid hat9; have HA9 := Lib.hid hA9; clear ho9 hk9 hat9 hA9 hn9))
          go_ret
          refine ⟨by rw [← HB1.out, HR9.out]; rfl, ?_⟩
          rw [← HD1.out, ← HS1.out, HR9.out, if_pos (by simp), (HSS.out y (by simp)).1, (HSS.out y (by simp)).2]
          simp only [Bool.false_eq_true, if_false]
          exact rnAnswer_end HNE.out HKD.out HA9.out (by have h9 := HO9.out; rw [List.length_append] at h9; exact h9) HK9.out HT9.out
    | true =>
      cases sv with
      | true =>
        rw [if_pos (.inl rfl)] at hpk
        rw [← hpk] at HC1
        clear hpk h3 HC2
        go_upto_if 41 with (go_at_call 65; (with_reducible refine (HLS.out _).mono ?_); rintro e wq ⟨rfl, rfl⟩)
        go_cut [10, 11] (fun xv okv wx => xv = .string (str (r0.getD [])) ∧ okv = .bool r0.isSome ∧ Hid (Kept [] w wx))
        case first =>
          go_wp2_with (go_at_call 109; (with_reducible refine (HC1.out _).mono ?_); rintro e wq ⟨rfl, n9, rfl⟩)
          go_meet
          exact ⟨rfl, rfl, Lib.hid (HKA.out.drewN _)⟩
        case rest =>
          obtain ⟨rfl, rfl, hk⟩ := hcut
          have HC : Hid (RnAt s v C wc) := Lib.hid (BlkIs.kept HH.out hk.out (fun hm => by cases hm))
          have HRC : Hid (OpRow v os wc) := Lib.hid (HR0.out.kept hk.out (fun _ _ h => by cases h))
          clear HKA HA c0 c10
          cases r0 with
          | none =>
            cases must with
            | true =>
              go_wp2
              go_ret
              refine ⟨by rw [← HB1.out, HR9.out]; rfl, ?_⟩
              rw [← HD1.out, ← HS1.out, HR9.out, if_neg (by simp), (HSN.out (by simp)).1]
              exact RnTo.same HH.out HR0.out hk.out
            | false =>
              have c37 : wc.cell? ⟨C, 37, none⟩ = some v := BlkIs.cell HC.out 37
              go_wp2_with (at_builtin; refine wp_optA rfl _ _ rfl v os rfl wc _ ⟨35, [b]⟩ (by show _ = World.alloc _ (.cells #[.int .i64 35, .string (str ([b]))] _); rw [HXO.out]) HRC.out _ rfl rfl HLL.out ?_; intro v2 w9 ho9 hk9 hat9 hn9; obtain ⟨gx, cx, rfl⟩ := ho9.shape hn9; have hA9 : RnAt s v C w9 := BlkIs.kept HC.out hk9 (fun hm => HNE.out (mem_ownB.1 hm)); have c9 : w9.cell? ⟨C, 37, none⟩ = some v := BlkIs.cell hA9 37; have f9 := BlkIs.free hA9 37; have HO9 := Lib.hid ho9; have HK9 := Lib.hid hk9; have HT9 := Lib.hid hat9; have HA9 := Lib.hid hA9; clear ho9 hk9 hat9 hA9 hn9)
              go_ret
              refine ⟨by rw [← HB1.out, HR9.out]; rfl, ?_⟩
              rw [← HD1.out, ← HS1.out, HR9.out, if_pos (by simp), (HSN.out (by simp)).1, (HSN.out (by simp)).2]
              exact rnAnswer_end HNE.out (hk.out.more (fun x hx => by cases hx)) HA9.out (by have h9 := HO9.out; rw [List.length_append] at h9; exact h9) HK9.out HT9.out
          | some x =>
            obtain ⟨hx1, hx2⟩ := HPL.out x HR9.out
            have c28 := rn_theirs HC.out HK4.out
            have f28 := BlkIs.free HC.out (28 + F)
            go_upto_region 16 with fail
            obtain ⟨wd, hwd⟩ : ∃ X, wc.setCell ⟨C, 28 + F, none⟩ (.string (str x)) = X := ⟨_, rfl⟩
            have HKD : Hid (Kept [C] w wd) := Lib.hid (by rw [← hwd]; exact (hk.out.more (fun x hx => by cases hx)).trans' ((Kept.refl [C] wc).setCell (.inl (by simp)) _))
            have HD : Hid (RnAt ({ s with theirs := upd s.theirs (F : Int) x } : NgS) v C wd) := Lib.hid (by rw [← hwd]; exact rn_set HC.out HK4.out x)
            have HRD : Hid (OpRow v os wd) := Lib.hid (HR0.out.kept HKD.out (fun g hg hm => by
              rw [List.mem_singleton.1 hm] at hg
              exact HNE.out hg))
            rw [show (Option.some x).getD [] = x from rfl] at *
            (try rw [hwd])
            clear hwd c28 f28 HC HRC hk
            have c10 := rn_like HD.out HK4.out
            have hsz : ¬ 9223372036854775807 < (str x).size + (str (s.like (F : Int))).size := by
              have e1 : (str x).size = x.length := rfl
              have e2 : (str (s.like (F : Int))).size = (s.like (F : Int)).length := rfl
              have := HLK.out
              omega
            have hap1 : str x ++ str (s.like (F : Int)) = str (x ++ s.like (F : Int)) := str_append _ _
            obtain ⟨y, hy⟩ : ∃ y, x ++ s.like (F : Int) = y := ⟨_, rfl⟩
            have hyl : y.length ≤ 32 := by rw [← hy, List.length_append]; have := HLK.out; omega
            have HY := Lib.hid hy
            rw [hy] at hap1
            obtain ⟨xy, hxy⟩ : ∃ z, str (b :: y) = z := ⟨_, rfl⟩
            have HXY := Lib.hid hxy
            have hap2 : xo ++ str y = xy := by rw [← hxy, ← HXO.out]; exact str_append _ _
            have hsz2 : ¬ 9223372036854775807 < xo.size + (str y).size := by
              have e1 : (str y).size = y.length := rfl
              have := HOS.out
              omega
            clear hxy hy
            have c37 : wd.cell? ⟨C, 37, none⟩ = some v := BlkIs.cell HD.out 37
            go_wp2_with (first
              | (go_at_call 65; (with_reducible refine (HLS.out _).mono ?_); rintro e wq ⟨rfl, rfl⟩)
              | (at_builtin; refine wp_optA rfl _ _ rfl v os rfl wd _ ⟨35, b :: y⟩ (by show _ = World.alloc _ (.cells #[.int .i64 35, .string (str (b :: y))] _); rw [HXY.out]) HRD.out _ rfl rfl HLL.out ?_; intro v2 w9 ho9 hk9 hat9 hn9; obtain ⟨gx, cx, rfl⟩ := ho9.shape hn9; have hA9 : RnAt ({ s with theirs := upd s.theirs (F : Int) x } : NgS) v C w9 := BlkIs.kept HD.out hk9 (fun hm => HNE.out (mem_ownB.1 hm)); have c9 : w9.cell? ⟨C, 37, none⟩ = some v := BlkIs.cell hA9 37; have f9 := BlkIs.free hA9 37; have HO9 := Lib.hid ho9; have HK9 := Lib.hid hk9; have HT9 := Lib.hid hat9; have HA9 := Lib.hid hA9; clear ho9 hk9 hat9 hA9 hn9))
            go_ret
            refine ⟨by rw [← HB1.out, HR9.out]; rfl, ?_⟩
            rw [← HD1.out, ← HS1.out, HR9.out, if_pos (by simp), (HSS.out x (by simp)).1, (HSS.out x (by simp)).2]
            simp only [if_true]
            rw [HY.out]
            exact rnAnswer_end HNE.out HKD.out HA9.out (by have h9 := HO9.out; rw [List.length_append] at h9; exact h9) HK9.out HT9.out
      | false =>
        rw [if_neg (by simp)] at hpk
        rw [← hpk] at HC2
        clear hpk h3 HC1
        go_upto_if 41 with (go_at_call 65; (with_reducible refine (HLS.out _).mono ?_); rintro e wq ⟨rfl, rfl⟩)
        go_cut [10, 11] (fun xv okv wx => xv = .string (str (r0.getD [])) ∧ okv = .bool r0.isSome ∧ Hid (Kept [] w wx))
        case first =>
          go_wp2_with (first
            | (go_at_call 65; (with_reducible refine (HLS.out _).mono ?_); rintro e wq ⟨rfl, rfl⟩)
            | (go_at_call 109; (with_reducible refine (HC2.out _).mono ?_); rintro e wq ⟨rfl, n9, rfl⟩))
          go_meet
          exact ⟨rfl, rfl, Lib.hid (HKA.out.drewN _)⟩
        case rest =>
          obtain ⟨rfl, rfl, hk⟩ := hcut
          have HC : Hid (RnAt s v C wc) := Lib.hid (BlkIs.kept HH.out hk.out (fun hm => by cases hm))
          have HRC : Hid (OpRow v os wc) := Lib.hid (HR0.out.kept hk.out (fun _ _ h => by cases h))
          clear HKA HA c0 c10
          cases r0 with
          | none =>
            cases must with
            | true =>
              go_wp2
              go_ret
              refine ⟨by rw [← HB1.out, HR9.out]; rfl, ?_⟩
              rw [← HD1.out, ← HS1.out, HR9.out, if_neg (by simp), (HSN.out (by simp)).1]
              exact RnTo.same HH.out HR0.out hk.out
            | false =>
              have c37 : wc.cell? ⟨C, 37, none⟩ = some v := BlkIs.cell HC.out 37
              go_wp2_with (at_builtin; refine wp_optA rfl _ _ rfl v os rfl wc _ ⟨35, [b]⟩ (by show _ = World.alloc _ (.cells #[.int .i64 35, .string (str ([b]))] _); rw [HXO.out]) HRC.out _ rfl rfl HLL.out ?_; intro v2 w9 ho9 hk9 hat9 hn9; obtain ⟨gx, cx, rfl⟩ := ho9.shape hn9; have hA9 : RnAt s v C w9 := BlkIs.kept HC.out hk9 (fun hm => HNE.out (mem_ownB.1 hm)); have c9 : w9.cell? ⟨C, 37, none⟩ = some v := BlkIs.cell hA9 37; have f9 := BlkIs.free hA9 37; have HO9 := Lib.hid ho9; have HK9 := Lib.hid hk9; have HT9 := Lib.hid hat9; have HA9 := Lib.hid hA9; clear ho9 hk9 hat9 hA9 hn9)
              go_ret
              refine ⟨by rw [← HB1.out, HR9.out]; rfl, ?_⟩
              rw [← HD1.out, ← HS1.out, HR9.out, if_pos (by simp), (HSN.out (by simp)).1, (HSN.out (by simp)).2]
              exact rnAnswer_end HNE.out (hk.out.more (fun x hx => by cases hx)) HA9.out (by have h9 := HO9.out; rw [List.length_append] at h9; exact h9) HK9.out HT9.out
          | some x =>
            obtain ⟨hx1, hx2⟩ := HPL.out x HR9.out
            have c28 := rn_theirs HC.out HK4.out
            have f28 := BlkIs.free HC.out (28 + F)
            go_upto_region 16 with fail
            obtain ⟨wd, hwd⟩ : ∃ X, wc.setCell ⟨C, 28 + F, none⟩ (.string (str x)) = X := ⟨_, rfl⟩
            have HKD : Hid (Kept [C] w wd) := Lib.hid (by rw [← hwd]; exact (hk.out.more (fun x hx => by cases hx)).trans' ((Kept.refl [C] wc).setCell (.inl (by simp)) _))
            have HD : Hid (RnAt ({ s with theirs := upd s.theirs (F : Int) x } : NgS) v C wd) := Lib.hid (by rw [← hwd]; exact rn_set HC.out HK4.out x)
            have HRD : Hid (OpRow v os wd) := Lib.hid (HR0.out.kept HKD.out (fun g hg hm => by
              rw [List.mem_singleton.1 hm] at hg
              exact HNE.out hg))
            rw [show (Option.some x).getD [] = x from rfl] at *
            (try rw [hwd])
            clear hwd c28 f28 HC HRC hk
            have c10 := rn_like HD.out HK4.out
            have hsz : ¬ 9223372036854775807 < (str x).size + (str (s.like (F : Int))).size := by
              have e1 : (str x).size = x.length := rfl
              have e2 : (str (s.like (F : Int))).size = (s.like (F : Int)).length := rfl
              have := HLK.out
              omega
            have hap1 : str x ++ str (s.like (F : Int)) = str (x ++ s.like (F : Int)) := str_append _ _
            obtain ⟨y, hy⟩ : ∃ y, x ++ s.like (F : Int) = y := ⟨_, rfl⟩
            have hyl : y.length ≤ 32 := by rw [← hy, List.length_append]; have := HLK.out; omega
            have HY := Lib.hid hy
            rw [hy] at hap1
            obtain ⟨xy, hxy⟩ : ∃ z, str (b :: y) = z := ⟨_, rfl⟩
            have HXY := Lib.hid hxy
            have hap2 : xo ++ str y = xy := by rw [← hxy, ← HXO.out]; exact str_append _ _
            have hsz2 : ¬ 9223372036854775807 < xo.size + (str y).size := by
              have e1 : (str y).size = y.length := rfl
              have := HOS.out
              omega
            clear hxy hy
            have c37 : wd.cell? ⟨C, 37, none⟩ = some v := BlkIs.cell HD.out 37
            go_wp2_with (first
              | (go_at_call 65; (with_reducible refine (HLS.out _).mono ?_); rintro e wq ⟨rfl, rfl⟩)
              | (at_builtin; refine wp_optA rfl _ _ rfl v os rfl wd _ ⟨35, b :: y⟩ (by show _ = World.alloc _ (.cells #[.int .i64 35, .string (str (b :: y))] _); rw [HXY.out]) HRD.out _ rfl rfl HLL.out ?_; intro v2 w9 ho9 hk9 hat9 hn9; obtain ⟨gx, cx, rfl⟩ := ho9.shape hn9; have hA9 : RnAt ({ s with theirs := upd s.theirs (F : Int) x } : NgS) v C w9 := BlkIs.kept HD.out hk9 (fun hm => HNE.out (mem_ownB.1 hm)); have c9 : w9.cell? ⟨C, 37, none⟩ = some v := BlkIs.cell hA9 37; have f9 := BlkIs.free hA9 37; have HO9 := Lib.hid ho9; have HK9 := Lib.hid hk9; have HT9 := Lib.hid hat9; have HA9 := Lib.hid hA9; clear ho9 hk9 hat9 hA9 hn9))
            go_ret
            refine ⟨by rw [← HB1.out, HR9.out]; rfl, ?_⟩
            rw [← HD1.out, ← HS1.out, HR9.out, if_pos (by simp), (HSS.out x (by simp)).1, (HSS.out x (by simp)).2]
            simp only [if_true]
            rw [HY.out]
            exact rnAnswer_end HNE.out HKD.out HA9.out (by have h9 := HO9.out; rw [List.length_append] at h9; exact h9) HK9.out HT9.out
end Go.Proofs.YtnhlachoimlhhaaGreatDoor

namespace Go.Proofs.YtnhlachoimlhhaaGreatDoor
open Go.ChangeShapes Go.WideShapes Go.ChangeAt Go.RowKit
set_option linter.unusedVariables false
set_option linter.unusedSimpArgs false

theorem str_first (b : UInt8) (r : List UInt8) (W : World) : (Instr.slice 9 (.string (str (b :: r))) none (some (.int .i64 1)) none).run Tryz.prog W = .ok (.string (str [b])) W := by
  have e := str_extract (b :: r) 0 1
  rw [show ((b :: r).take 1).drop 0 = [b] from rfl] at e
  rw [← e]
  have hs : (str (b :: r)).size = (b :: r).length := rfl
  have h1 : 1 ≤ (b :: r).length := by simp
  go_simp
  intro h
  omega
theorem says_none {s : NgS} {f : Int} {v : List UInt8} (h : s.pick f v = none) : s.says f v = [] := by unfold NgS.says; rw [h]
theorem says_some {s : NgS} {f : Int} {v x : List UInt8} (h : s.pick f v = some x) : s.says f v ≠ [] := by
  have hx := NgS.pick_len h
  unfold NgS.says
  rw [h]
  intro e
  have e2 : (if ftLst f = true then x ++ s.like f else x) = [] := e
  have : x = [] := by
    split at e2
    · exact (List.append_eq_nil_iff.1 e2).1
    · exact e2
  rw [this] at hx
  simp at hx
theorem hear32 (s : NgS) (due : List M.Opt) (b : UInt8) (v : List UInt8) (m : Bool) : s.hear due 32 b v m = ⟨(s.pick (b.toNat : Int) v).isSome || !m, s.settled (b.toNat : Int) v, if (s.pick (b.toNat : Int) v).isSome = true ∨ m = false then due ++ [⟨35, b :: s.says (b.toNat : Int) v⟩] else due⟩ := by
  unfold NgS.hear
  rw [if_pos rfl]
  cases hp : s.pick (b.toNat : Int) v with
  | none =>
    rw [says_none hp]
    cases m <;> simp
  | some x =>
    have h := says_some hp
    simp [h]
/-- A world that the row of a list bears on. -/
theorem RnTo.from {s3 : NgS} {os3 : List M.Opt} {C : Nat} {v v1 : Value} {w wr w' : World} (q3 : Kept (C :: ownB v) w wr) (q4 : ∀ g, v1.ownBlock = some g → v.ownBlock = some g ∨ w.heap.size ≤ g) (k : Kept [] wr w') (W : World) (h : RnTo s3 os3 C v1 w' W) : RnTo s3 os3 C v w W :=
  RnTo.trans (q3.trans' (k.more (fun x hx => by cases hx))) q4 h
set_option maxHeartbeats 16000000 in
set_option maxRecDepth 100000 in
theorem rnTake_any (s : NgS) (os : List M.Opt) (v : Value) (L : Value) (los : List M.Opt) (hok : s.Ok) (C : Nat) (w : World) (h : RnAt s v C w) (hr : OpRow v os w) (hlen : os.length + los.length ≤ 1000000) (hL : OptsAt w L los) (hd : ∀ b, L.ownBlock = some b → b ≠ C ∧ v.ownBlock ≠ some b) :
    Calls Tryz.prog 25 #[.pointer (some ⟨C, 0, none⟩), L] w fun e w' => e = .returned (.bool (s.take os los).ok) ∧ RnTo (s.take os los).s (s.take os los).due C v w w' := by
  have HDT := Lib.hid hL.data
  obtain ⟨p, cap, rfl, hp⟩ := hL.cellsN
  have HP := Lib.hid hp
  have HOK := Lib.hid (NgS.Ok.takeTo hok os los)
  have HST := Lib.hid (NgS.takeTo_step s os los)
  have HNO := Lib.hid (NgS.takeTo_no s os los)
  have H0 : Hid (RnTo s os C v w w) := Lib.hid (RnTo.same h hr (Kept.refl _ _))
  have HD := Lib.hid hd
  have HLEN := Lib.hid hlen
  obtain ⟨N, hNN⟩ : ∃ N, los.length = N := ⟨_, rfl⟩
  rw [hNN] at HP HD HLEN ⊢
  have hN : N ≤ 1000000 := by omega
  obtain ⟨TK, hTK⟩ : ∃ x, s.take os los = x := ⟨_, rfl⟩
  rw [hTK]
  have HTK : Hid (s.takeTo os los N = TK) := Lib.hid (by rw [← hTK, ← hNN]; rfl)
  clear h hr hL hp hok hd hlen hNN hTK
  go_enter Tryz.func25, Tryz.ntmps25
  go_wp2
  go_loopw [5, 6] (fun mv iv wr => ∃ (k : Nat) (m : Bool), mv = .bool m ∧ iv = .int .i64 (k : Int) ∧ k ≤ N ∧ Hid (m = decide (0 < k ∧ (los.getD (k - 1) ⟨0, []⟩).t = 1)) ∧ Hid ((s.takeTo os los k).ok = true) ∧ Hid (RnTo (s.takeTo os los k).s (s.takeTo os los k).due C v w wr)) (fun _ iv _ => N - (intOf iv).toNat)
  case atStart => exact ⟨0, false, rfl, rfl, Nat.zero_le _, Lib.hid (by simp), Lib.hid rfl, H0⟩
  case round =>
    obtain ⟨k, m, rfl, rfl, hk, hm, hgo, hto⟩ := hrel
    by_cases hkn : k < N
    · have d9 : decide ((k : Int) < (N : Int)) = true := decide_eq_true (by omega)
      have k00 : (0 : Int) ≤ (k : Int) := by omega
      have k0N : (k : Int) < (N : Int) := by omega
      obtain ⟨bb, o, rfl, hob, hb, hc⟩ := HP.out k hkn
      obtain ⟨hbC, hbv⟩ := HD.out bb hob
      have hbn : bb ∉ C :: ownB v := fun hm => by
        rcases List.mem_cons.1 hm with e | e
        · exact hbC e
        · exact hbv (mem_ownB.1 e)
      obtain ⟨v1, q1, q2, q3, q4⟩ := hto.out
      have c0 : wr.cell? ⟨bb, o + k * 2, none⟩ = some (.int .i64 (los.getD k ⟨0, []⟩).t) := (q3.cellN hb hbn).trans (hc k hkn).1
      have c1 : wr.cell? ⟨bb, o + k * 2 + 1, none⟩ = some (.string (str (los.getD k ⟨0, []⟩).d)) := (q3.cellN hb hbn).trans (hc k hkn).2
      have hdl : (los.getD k ⟨0, []⟩).d.length ≤ 9223372036854775807 := by
        rw [List.getD_eq_getElem?_getD]
        cases hg : los[k]? with
        | none => simp
        | some o => have := HDT.out o (List.mem_of_getElem? hg); unfold maxLen at this; simp; omega
      have hok1 := HOK.out k
      obtain ⟨T, hT⟩ : ∃ x, (los.getD k ⟨0, []⟩).t = x := ⟨_, rfl⟩
      obtain ⟨dl, hdd⟩ : ∃ x, (los.getD k ⟨0, []⟩).d = x := ⟨_, rfl⟩
      have hst : s.takeTo os los (k + 1) = (s.takeTo os los k).s.take1 (s.takeTo os los k).due ⟨T, dl⟩ m := by
        rw [HST.out k hgo.out, hm.out, ← hT, ← hdd]
      rw [hT] at c0
      rw [hdd] at c1 hdl
      obtain ⟨s1, hs1⟩ : ∃ x, (s.takeTo os los k).s = x := ⟨_, rfl⟩
      obtain ⟨os1, ho1⟩ : ∃ x, (s.takeTo os los k).due = x := ⟨_, rfl⟩
      rw [hs1, ho1] at hst hok1
      rw [hs1] at q2
      rw [ho1] at q1
      have HNEXT : Hid (∀ (R : NgO) (m2 : Bool) (W : World), s1.take1 os1 ⟨T, dl⟩ m = R → R.ok = true → m2 = decide (T = 1) → RnTo R.s R.due C v1 wr W → Hid (m2 = decide (0 < k + 1 ∧ (los.getD (k + 1 - 1) ⟨0, []⟩).t = 1)) ∧ Hid ((s.takeTo os los (k + 1)).ok = true) ∧ Hid (RnTo (s.takeTo os los (k + 1)).s (s.takeTo os los (k + 1)).due C v w W)) := Lib.hid (fun R m2 W hR ho hm2 hto2 => by
        rw [hst, hR]
        refine ⟨Lib.hid ?_, Lib.hid ho, Lib.hid (RnTo.trans q3 q4 hto2)⟩
        rw [hm2, Nat.add_sub_cancel, hT, decide_eq_decide]
        exact ⟨fun e => ⟨by omega, e⟩, fun e => e.2⟩)
      have HSTOP : Hid (∀ (R : NgO) (W : World), s1.take1 os1 ⟨T, dl⟩ m = R → R.ok = false → RnTo R.s R.due C v1 wr W → TK.ok = false ∧ RnTo TK.s TK.due C v w W) := Lib.hid (fun R W hR ho hto2 => by
        have e : TK = R := by
          rw [← HTK.out, ← hR, ← hst]
          exact HNO.out (k + 1) (by rw [hst, hR]; exact ho) N (by omega)
        rw [e]
        exact ⟨ho, RnTo.trans q3 q4 hto2⟩)
      have HOS1 : Hid (os1.length ≤ 1000000 ∧ os1.length ≤ 1073741824) := Lib.hid (by have := hok1.2; have := HLEN.out; omega)
      have HOK1 := Lib.hid hok1.1
      have HQ1 := Lib.hid q1
      have HQ2 := Lib.hid q2
      have HSAME : Hid (∀ W, Kept [] wr W → RnTo s1 os1 C v1 wr W) := Lib.hid (fun W kW => RnTo.same q2 q1 kW)
      have HNE1 : Hid (v1.ownBlock ≠ some C) := Lib.hid (q1.blk q2 (by decide))
      obtain ⟨y, hy⟩ : ∃ y, str dl = y := ⟨_, rfl⟩
      rw [hy] at c1
      have HY := Lib.hid hy
      have HM1 := hm
      clear hst hok1 q1 q2 q3 q4 hb hbn hc hob hbC hbv hto hgo hs1 ho1 hT hdd hy hm
      obtain ⟨H, hH⟩ : ∃ H, wr.heap.size = H := ⟨_, rfl⟩
      obtain ⟨w5, hw5⟩ : ∃ X, wr.alloc (.cells #[.int .i64 T, .string y] 106) = X := ⟨_, rfl⟩
      have HB5 : Hid (BlkIs #[.int .i64 T, .string y] 106 H w5) := Lib.hid (by rw [← hw5, ← hH]; exact BlkIs.new _ _ _)
      have HK5 : Hid (Kept [] wr w5) := Lib.hid (by rw [← hw5]; exact (Kept.refl [] wr).alloc _)
      have t5 : w5.cell? ⟨H, 0, none⟩ = some (.int .i64 T) := HB5.out.cell 0
      have y5 : w5.cell? ⟨H, 1, none⟩ = some (.string y) := HB5.out.cell 1
      go_upto_region 6 with fail
      (try rw [hw5])
      (try rw [hH])
      have HH1 := Lib.hid hH
      clear hw5 hH c0 c1
      by_cases hT1 : T = 1
      · have dT : decide (T = 1) = true := decide_eq_true hT1
        have bT : (T == 1) = true := by rw [beq_iff_eq]; exact hT1
        cases m with
        | true =>
          have hst := HSTOP.out ⟨false, s1, os1⟩ w5 (by unfold NgS.take1; rw [hT1]; rfl) rfl (HSAME.out _ HK5.out)
          clear hT1
          go_wp2
          go_ret
          exact ⟨by rw [hst.1]; rfl, hst.2⟩
        | false =>
          have hnx := HNEXT.out ⟨true, s1, os1⟩ true w5 (by unfold NgS.take1; rw [hT1]; rfl) rfl dT.symm (HSAME.out _ HK5.out)
          clear hT1
          go_wp2
          refine ⟨⟨k + 1, true, by first | rfl | go_num, by go_num, by omega, hnx.1, hnx.2.1, hnx.2.2⟩, ?_⟩
          simp [intOf]; omega
      · have dT : decide (T = 1) = false := decide_eq_false hT1
        have bT : (T == 1) = false := by rw [beq_eq_false_iff_ne]; exact hT1
        have HT1 := Lib.hid hT1
        clear hT1
        by_cases hK : T = 32
        · subst hK
          cases dl with
          | nil =>
            have hst := HSTOP.out ⟨false, s1, os1⟩ w5 (by unfold NgS.take1; rfl) rfl (HSAME.out _ HK5.out)
            have hy0 : y = ⟨#[]⟩ := by rw [← HY.out]; rfl
            subst hy0
            go_wp2
            go_ret
            exact ⟨by rw [hst.1]; rfl, hst.2⟩
          | cons b l =>
            obtain ⟨hz, hx⟩ := str_head b l
            have hsl := str_tail b l
            have hfs := str_first b l
            have hem := str_ne (l := b :: l) (by simp)
            have hll : l.length ≤ 9223372036854775807 := by simp at hdl; omega
            have hz2 : 0 < y.size := by rw [← HY.out]; exact hz
            have hx0 : y[0] = b := by
              have hyy := HY.out
              subst hyy
              exact hx _
            have hsz : y.size ≤ 9223372036854775807 := by rw [← HY.out]; exact hdl
            have hwp : IntKind.i64.wrap (b.toNat : Int) = (b.toNat : Int) := IntWalk.i64_in _ (by have := UInt8.toNat_lt b; omega)
            rw [HY.out] at hsl hfs hem
            clear hz hx
            obtain ⟨x, hxl⟩ : ∃ x, str l = x := ⟨_, rfl⟩
            have HXL := Lib.hid hxl
            rw [hxl] at hsl
            clear hxl
            go_upto_region 19 with fail
            have HR5 := Lib.hid (HK5.out.drewN 1)
            have HA5 := Lib.hid (HB5.out.drewN 1)
            change Hid (Kept [] wr w5.drew) at HR5
            change Hid (BlkIs _ _ H w5.drew) at HA5
            clear t5 y5
            refine wp_region_T (fun W => BlkIs #[.int .i64 32, .string y] 106 H W) 9 (by kernel_rfl) ?_
            have hS := (show BlkIs #[.int .i64 32, .string y] 106 H w5.drew from HB5.out.drewN 1)
            generalize w5.drew = w6 at hS HR5 HA5 ⊢
            refine wpAnyT_takeK (i := 0) (d := 37) (Op.fieldAddr 106 (Operand.tmp 7) 1) (.pointer (some ⟨H, 1, none⟩)) (by kernel_rfl) (by kernel_rfl) (by kernel_rfl) (by kernel_rfl) (by kernel_rfl) (fun _ _ _ h => h) ?_ hS ?_
            · intro o ho W hW
              unfold execOp
              rw [ho]
              go_simp
              (try rfl)
            try simp only [Act.put, List.setIfInBounds_toArray, List.set_cons_zero, List.set_cons_succ]
            refine wpAnyT_takeK (i := 1) (d := 38) (Op.load 9 (Operand.tmp 37)) (.string y) (by kernel_rfl) (by kernel_rfl) (by kernel_rfl) (by kernel_rfl) (by kernel_rfl) (fun _ _ _ h => h) ?_ hS ?_
            · intro o ho W hW
              have c : W.cell? ⟨H, 1, none⟩ = some (.string y) := BlkIs.cell hW 1
              unfold execOp
              rw [ho]
              go_simp
              (try rfl)
            try simp only [Act.put, List.setIfInBounds_toArray, List.set_cons_zero, List.set_cons_succ]
            refine wpAnyT_takeK (i := 2) (d := 39) (Op.index 9 (Operand.tmp 38) (Operand.const (Value.int IntKind.i64 0))) (.int .u8 (b.toNat : Int)) (by kernel_rfl) (by kernel_rfl) (by kernel_rfl) (by kernel_rfl) (by kernel_rfl) (fun _ _ _ h => h) ?_ hS ?_
            · intro o ho W hW
              unfold execOp
              rw [ho]
              go_simp
              (try rfl)
            try simp only [Act.put, List.setIfInBounds_toArray, List.set_cons_zero, List.set_cons_succ]
            refine wpAnyT_takeK (i := 3) (d := 40) (Op.convert 5 3 (Operand.tmp 39)) (.int .i64 (b.toNat : Int)) (by kernel_rfl) (by kernel_rfl) (by kernel_rfl) (by kernel_rfl) (by kernel_rfl) (fun _ _ _ h => h) ?_ hS ?_
            · intro o ho W hW
              unfold execOp
              rw [ho]
              go_simp
              (try rfl)
            try simp only [Act.put, List.setIfInBounds_toArray, List.set_cons_zero, List.set_cons_succ]
            refine wpAnyT_takeK (i := 4) (d := 41) (Op.fieldAddr 106 (Operand.tmp 7) 1) (.pointer (some ⟨H, 1, none⟩)) (by kernel_rfl) (by kernel_rfl) (by kernel_rfl) (by kernel_rfl) (by kernel_rfl) (fun _ _ _ h => h) ?_ hS ?_
            · intro o ho W hW
              unfold execOp
              rw [ho]
              go_simp
              (try rfl)
            try simp only [Act.put, List.setIfInBounds_toArray, List.set_cons_zero, List.set_cons_succ]
            refine wpAnyT_takeK (i := 5) (d := 42) (Op.load 9 (Operand.tmp 41)) (.string y) (by kernel_rfl) (by kernel_rfl) (by kernel_rfl) (by kernel_rfl) (by kernel_rfl) (fun _ _ _ h => h) ?_ hS ?_
            · intro o ho W hW
              have c : W.cell? ⟨H, 1, none⟩ = some (.string y) := BlkIs.cell hW 1
              unfold execOp
              rw [ho]
              go_simp
              (try rfl)
            try simp only [Act.put, List.setIfInBounds_toArray, List.set_cons_zero, List.set_cons_succ]
            refine wpAnyT_takeK (i := 6) (d := 43) (Op.slice 9 (Operand.tmp 42) (some (Operand.const (Value.int IntKind.i64 1))) none none) (.string x) (by kernel_rfl) (by kernel_rfl) (by kernel_rfl) (by kernel_rfl) (by kernel_rfl) (fun _ _ _ h => h) ?_ hS ?_
            · intro o ho W hW
              unfold execOp
              rw [ho]
              go_simp
              (try rfl)
            try simp only [Act.put, List.setIfInBounds_toArray, List.set_cons_zero, List.set_cons_succ]
            refine wpAnyT_takeK (i := 7) (d := 9) (Op.assign (Operand.tmp 40)) (.int .i64 (b.toNat : Int)) (by kernel_rfl) (by kernel_rfl) (by kernel_rfl) (by kernel_rfl) (by kernel_rfl) (fun _ _ _ h => h) ?_ hS ?_
            · intro o ho W hW
              unfold execOp
              rw [ho]
              go_simp
            try simp only [Act.put, List.setIfInBounds_toArray, List.set_cons_zero, List.set_cons_succ]
            refine wpAnyT_takeK (i := 8) (d := 10) (Op.assign (Operand.tmp 43)) (.string x) (by kernel_rfl) (by kernel_rfl) (by kernel_rfl) (by kernel_rfl) (by kernel_rfl) (fun _ _ _ h => h) ?_ hS ?_
            · intro o ho W hW
              unfold execOp
              rw [ho]
              go_simp
            try simp only [Act.put, List.setIfInBounds_toArray, List.set_cons_zero, List.set_cons_succ]
            refine wpAnyT_done (by kernel_rfl) ?_ _
            have t6 : w6.cell? ⟨H, 0, none⟩ = some (.int .i64 32) := HA5.out.cell 0
            have y6 : w6.cell? ⟨H, 1, none⟩ = some (.string y) := HA5.out.cell 1
            have HQA : Hid (RnAt s1 v1 C w6) := Lib.hid (BlkIs.kept HQ2.out HR5.out (fun hm => by cases hm))
            have HQB : Hid (OpRow v1 os1 w6) := Lib.hid (HQ1.out.kept HR5.out (fun _ _ h => by cases h))
            have HTRW : Hid (∀ (s3 : NgS) (os3 : List M.Opt) (W : World), RnTo s3 os3 C v1 w6 W → RnTo s3 os3 C v1 wr W) := Lib.hid (fun s3 os3 W h => RnTo.trans (HR5.out.more (fun x hx => by cases hx)) (fun g hg => .inl hg) h)
            clear hS HK5 HB5 hsl hfs hem hz2 hx0 hsz
            have HCH := Lib.hid (rnChange_any s1 os1 v1 b l hll m HOK1.out C w6 HQA.out HQB.out HOS1.out.1)
            have e32 : s1.take1 os1 ⟨32, b :: l⟩ m = _ := (by unfold NgS.take1; rfl : s1.take1 os1 ⟨32, b :: l⟩ m = s1.hear os1 32 b l m).trans (hear32 s1 os1 b l m)
            rw [HXL.out] at HCH
            obtain ⟨B1, hB1⟩ : ∃ z, (s1.pick (b.toNat : Int) l).isSome = z := ⟨_, rfl⟩
            obtain ⟨D1, hD1⟩ : ∃ z, (if (s1.pick (b.toNat : Int) l).isSome = true ∨ m = false then os1 ++ [⟨35, b :: s1.says (b.toNat : Int) l⟩] else os1) = z := ⟨_, rfl⟩
            obtain ⟨S1, hS1⟩ : ∃ z, s1.settled (b.toNat : Int) l = z := ⟨_, rfl⟩
            rw [hD1, hS1, hB1] at e32 HCH
            have HE := Lib.hid e32
            clear hB1 hD1 hS1 e32
            cases B1 with
            | true =>
              go_wp2_with (go_at_call 72; (with_reducible refine HCH.out.mono ?_); rintro e w7 ⟨rfl, h7⟩; have H7 := Lib.hid (HTRW.out _ _ _ h7); clear h7)
              have hnx := HNEXT.out ⟨true, S1, D1⟩ false w7 (by rw [HE.out]; rfl) rfl (by decide) H7.out
              refine ⟨⟨k + 1, false, by first | rfl | go_num, by go_num, by omega, hnx.1, hnx.2.1, hnx.2.2⟩, ?_⟩
              simp [intOf]; omega
            | false =>
              cases m with
              | true =>
                go_wp2_with (go_at_call 72; (with_reducible refine HCH.out.mono ?_); rintro e w7 ⟨rfl, h7⟩; have H7 := Lib.hid (HTRW.out _ _ _ h7); clear h7)
                have hst := HSTOP.out ⟨false, S1, D1⟩ w7 (by rw [HE.out]; rfl) rfl H7.out
                go_ret
                exact ⟨by rw [hst.1]; rfl, hst.2⟩
              | false =>
                go_wp2_with (go_at_call 72; (with_reducible refine HCH.out.mono ?_); rintro e w7 ⟨rfl, h7⟩; have H7 := Lib.hid (HTRW.out _ _ _ h7); clear h7)
                have hnx := HNEXT.out ⟨true, S1, D1⟩ false w7 (by rw [HE.out]; rfl) rfl (by decide) H7.out
                refine ⟨⟨k + 1, false, by first | rfl | go_num, by go_num, by omega, hnx.1, hnx.2.1, hnx.2.2⟩, ?_⟩
                simp [intOf]; omega
        have n32 : decide (T = 32) = false := decide_eq_false hK
        have b32 : (T == 32) = false := by rw [beq_eq_false_iff_ne]; exact hK
        have N32 := Lib.hid hK
        clear hK
        by_cases hK : T = 33
        · subst hK
          cases dl with
          | nil =>
            have hst := HSTOP.out ⟨false, s1, os1⟩ w5 (by unfold NgS.take1; rfl) rfl (HSAME.out _ HK5.out)
            have hy0 : y = ⟨#[]⟩ := by rw [← HY.out]; rfl
            subst hy0
            go_wp2
            go_ret
            exact ⟨by rw [hst.1]; rfl, hst.2⟩
          | cons b l =>
            obtain ⟨hz, hx⟩ := str_head b l
            have hsl := str_tail b l
            have hfs := str_first b l
            have hem := str_ne (l := b :: l) (by simp)
            have hll : l.length ≤ 9223372036854775807 := by simp at hdl; omega
            have hz2 : 0 < y.size := by rw [← HY.out]; exact hz
            have hx0 : y[0] = b := by
              have hyy := HY.out
              subst hyy
              exact hx _
            have hsz : y.size ≤ 9223372036854775807 := by rw [← HY.out]; exact hdl
            have hwp : IntKind.i64.wrap (b.toNat : Int) = (b.toNat : Int) := IntWalk.i64_in _ (by have := UInt8.toNat_lt b; omega)
            rw [HY.out] at hsl hfs hem
            clear hz hx
            obtain ⟨x, hxl⟩ : ∃ x, str l = x := ⟨_, rfl⟩
            have HXL := Lib.hid hxl
            rw [hxl] at hsl
            clear hxl
            go_upto_region 19 with fail
            have HR5 := Lib.hid (HK5.out.drewN 1)
            have HA5 := Lib.hid (HB5.out.drewN 1)
            change Hid (Kept [] wr w5.drew) at HR5
            change Hid (BlkIs _ _ H w5.drew) at HA5
            clear t5 y5
            refine wp_region_T (fun W => BlkIs #[.int .i64 33, .string y] 106 H W) 9 (by kernel_rfl) ?_
            have hS := (show BlkIs #[.int .i64 33, .string y] 106 H w5.drew from HB5.out.drewN 1)
            generalize w5.drew = w6 at hS HR5 HA5 ⊢
            refine wpAnyT_takeK (i := 0) (d := 37) (Op.fieldAddr 106 (Operand.tmp 7) 1) (.pointer (some ⟨H, 1, none⟩)) (by kernel_rfl) (by kernel_rfl) (by kernel_rfl) (by kernel_rfl) (by kernel_rfl) (fun _ _ _ h => h) ?_ hS ?_
            · intro o ho W hW
              unfold execOp
              rw [ho]
              go_simp
              (try rfl)
            try simp only [Act.put, List.setIfInBounds_toArray, List.set_cons_zero, List.set_cons_succ]
            refine wpAnyT_takeK (i := 1) (d := 38) (Op.load 9 (Operand.tmp 37)) (.string y) (by kernel_rfl) (by kernel_rfl) (by kernel_rfl) (by kernel_rfl) (by kernel_rfl) (fun _ _ _ h => h) ?_ hS ?_
            · intro o ho W hW
              have c : W.cell? ⟨H, 1, none⟩ = some (.string y) := BlkIs.cell hW 1
              unfold execOp
              rw [ho]
              go_simp
              (try rfl)
            try simp only [Act.put, List.setIfInBounds_toArray, List.set_cons_zero, List.set_cons_succ]
            refine wpAnyT_takeK (i := 2) (d := 39) (Op.index 9 (Operand.tmp 38) (Operand.const (Value.int IntKind.i64 0))) (.int .u8 (b.toNat : Int)) (by kernel_rfl) (by kernel_rfl) (by kernel_rfl) (by kernel_rfl) (by kernel_rfl) (fun _ _ _ h => h) ?_ hS ?_
            · intro o ho W hW
              unfold execOp
              rw [ho]
              go_simp
              (try rfl)
            try simp only [Act.put, List.setIfInBounds_toArray, List.set_cons_zero, List.set_cons_succ]
            refine wpAnyT_takeK (i := 3) (d := 40) (Op.convert 5 3 (Operand.tmp 39)) (.int .i64 (b.toNat : Int)) (by kernel_rfl) (by kernel_rfl) (by kernel_rfl) (by kernel_rfl) (by kernel_rfl) (fun _ _ _ h => h) ?_ hS ?_
            · intro o ho W hW
              unfold execOp
              rw [ho]
              go_simp
              (try rfl)
            try simp only [Act.put, List.setIfInBounds_toArray, List.set_cons_zero, List.set_cons_succ]
            refine wpAnyT_takeK (i := 4) (d := 41) (Op.fieldAddr 106 (Operand.tmp 7) 1) (.pointer (some ⟨H, 1, none⟩)) (by kernel_rfl) (by kernel_rfl) (by kernel_rfl) (by kernel_rfl) (by kernel_rfl) (fun _ _ _ h => h) ?_ hS ?_
            · intro o ho W hW
              unfold execOp
              rw [ho]
              go_simp
              (try rfl)
            try simp only [Act.put, List.setIfInBounds_toArray, List.set_cons_zero, List.set_cons_succ]
            refine wpAnyT_takeK (i := 5) (d := 42) (Op.load 9 (Operand.tmp 41)) (.string y) (by kernel_rfl) (by kernel_rfl) (by kernel_rfl) (by kernel_rfl) (by kernel_rfl) (fun _ _ _ h => h) ?_ hS ?_
            · intro o ho W hW
              have c : W.cell? ⟨H, 1, none⟩ = some (.string y) := BlkIs.cell hW 1
              unfold execOp
              rw [ho]
              go_simp
              (try rfl)
            try simp only [Act.put, List.setIfInBounds_toArray, List.set_cons_zero, List.set_cons_succ]
            refine wpAnyT_takeK (i := 6) (d := 43) (Op.slice 9 (Operand.tmp 42) (some (Operand.const (Value.int IntKind.i64 1))) none none) (.string x) (by kernel_rfl) (by kernel_rfl) (by kernel_rfl) (by kernel_rfl) (by kernel_rfl) (fun _ _ _ h => h) ?_ hS ?_
            · intro o ho W hW
              unfold execOp
              rw [ho]
              go_simp
              (try rfl)
            try simp only [Act.put, List.setIfInBounds_toArray, List.set_cons_zero, List.set_cons_succ]
            refine wpAnyT_takeK (i := 7) (d := 9) (Op.assign (Operand.tmp 40)) (.int .i64 (b.toNat : Int)) (by kernel_rfl) (by kernel_rfl) (by kernel_rfl) (by kernel_rfl) (by kernel_rfl) (fun _ _ _ h => h) ?_ hS ?_
            · intro o ho W hW
              unfold execOp
              rw [ho]
              go_simp
            try simp only [Act.put, List.setIfInBounds_toArray, List.set_cons_zero, List.set_cons_succ]
            refine wpAnyT_takeK (i := 8) (d := 10) (Op.assign (Operand.tmp 43)) (.string x) (by kernel_rfl) (by kernel_rfl) (by kernel_rfl) (by kernel_rfl) (by kernel_rfl) (fun _ _ _ h => h) ?_ hS ?_
            · intro o ho W hW
              unfold execOp
              rw [ho]
              go_simp
            try simp only [Act.put, List.setIfInBounds_toArray, List.set_cons_zero, List.set_cons_succ]
            refine wpAnyT_done (by kernel_rfl) ?_ _
            have t6 : w6.cell? ⟨H, 0, none⟩ = some (.int .i64 33) := HA5.out.cell 0
            have y6 : w6.cell? ⟨H, 1, none⟩ = some (.string y) := HA5.out.cell 1
            have HQA : Hid (RnAt s1 v1 C w6) := Lib.hid (BlkIs.kept HQ2.out HR5.out (fun hm => by cases hm))
            have HQB : Hid (OpRow v1 os1 w6) := Lib.hid (HQ1.out.kept HR5.out (fun _ _ h => by cases h))
            have HTRW : Hid (∀ (s3 : NgS) (os3 : List M.Opt) (W : World), RnTo s3 os3 C v1 w6 W → RnTo s3 os3 C v1 wr W) := Lib.hid (fun s3 os3 W h => RnTo.trans (HR5.out.more (fun x hx => by cases hx)) (fun g hg => .inl hg) h)
            clear hS HK5 HB5 hsl hfs hem hz2 hx0 hsz
            have hnx := HNEXT.out ⟨true, s1, os1⟩ false w6 (by unfold NgS.take1 NgS.hear; rfl) rfl (by decide) (HSAME.out _ HR5.out)
            go_wp2
            refine ⟨⟨k + 1, false, by first | rfl | go_num, by go_num, by omega, hnx.1, hnx.2.1, hnx.2.2⟩, ?_⟩
            simp [intOf]; omega
        have n33 : decide (T = 33) = false := decide_eq_false hK
        have b33 : (T == 33) = false := by rw [beq_eq_false_iff_ne]; exact hK
        have N33 := Lib.hid hK
        clear hK
        by_cases hK : T = 34
        · subst hK
          cases dl with
          | nil =>
            have hst := HSTOP.out ⟨false, s1, os1⟩ w5 (by unfold NgS.take1; rfl) rfl (HSAME.out _ HK5.out)
            have hy0 : y = ⟨#[]⟩ := by rw [← HY.out]; rfl
            subst hy0
            go_wp2
            go_ret
            exact ⟨by rw [hst.1]; rfl, hst.2⟩
          | cons b l =>
            obtain ⟨hz, hx⟩ := str_head b l
            have hsl := str_tail b l
            have hfs := str_first b l
            have hem := str_ne (l := b :: l) (by simp)
            have hll : l.length ≤ 9223372036854775807 := by simp at hdl; omega
            have hz2 : 0 < y.size := by rw [← HY.out]; exact hz
            have hx0 : y[0] = b := by
              have hyy := HY.out
              subst hyy
              exact hx _
            have hsz : y.size ≤ 9223372036854775807 := by rw [← HY.out]; exact hdl
            have hwp : IntKind.i64.wrap (b.toNat : Int) = (b.toNat : Int) := IntWalk.i64_in _ (by have := UInt8.toNat_lt b; omega)
            rw [HY.out] at hsl hfs hem
            clear hz hx
            obtain ⟨x, hxl⟩ : ∃ x, str l = x := ⟨_, rfl⟩
            have HXL := Lib.hid hxl
            rw [hxl] at hsl
            clear hxl
            go_upto_region 19 with fail
            have HR5 := Lib.hid (HK5.out.drewN 1)
            have HA5 := Lib.hid (HB5.out.drewN 1)
            change Hid (Kept [] wr w5.drew) at HR5
            change Hid (BlkIs _ _ H w5.drew) at HA5
            clear t5 y5
            refine wp_region_T (fun W => BlkIs #[.int .i64 34, .string y] 106 H W) 9 (by kernel_rfl) ?_
            have hS := (show BlkIs #[.int .i64 34, .string y] 106 H w5.drew from HB5.out.drewN 1)
            generalize w5.drew = w6 at hS HR5 HA5 ⊢
            refine wpAnyT_takeK (i := 0) (d := 37) (Op.fieldAddr 106 (Operand.tmp 7) 1) (.pointer (some ⟨H, 1, none⟩)) (by kernel_rfl) (by kernel_rfl) (by kernel_rfl) (by kernel_rfl) (by kernel_rfl) (fun _ _ _ h => h) ?_ hS ?_
            · intro o ho W hW
              unfold execOp
              rw [ho]
              go_simp
              (try rfl)
            try simp only [Act.put, List.setIfInBounds_toArray, List.set_cons_zero, List.set_cons_succ]
            refine wpAnyT_takeK (i := 1) (d := 38) (Op.load 9 (Operand.tmp 37)) (.string y) (by kernel_rfl) (by kernel_rfl) (by kernel_rfl) (by kernel_rfl) (by kernel_rfl) (fun _ _ _ h => h) ?_ hS ?_
            · intro o ho W hW
              have c : W.cell? ⟨H, 1, none⟩ = some (.string y) := BlkIs.cell hW 1
              unfold execOp
              rw [ho]
              go_simp
              (try rfl)
            try simp only [Act.put, List.setIfInBounds_toArray, List.set_cons_zero, List.set_cons_succ]
            refine wpAnyT_takeK (i := 2) (d := 39) (Op.index 9 (Operand.tmp 38) (Operand.const (Value.int IntKind.i64 0))) (.int .u8 (b.toNat : Int)) (by kernel_rfl) (by kernel_rfl) (by kernel_rfl) (by kernel_rfl) (by kernel_rfl) (fun _ _ _ h => h) ?_ hS ?_
            · intro o ho W hW
              unfold execOp
              rw [ho]
              go_simp
              (try rfl)
            try simp only [Act.put, List.setIfInBounds_toArray, List.set_cons_zero, List.set_cons_succ]
            refine wpAnyT_takeK (i := 3) (d := 40) (Op.convert 5 3 (Operand.tmp 39)) (.int .i64 (b.toNat : Int)) (by kernel_rfl) (by kernel_rfl) (by kernel_rfl) (by kernel_rfl) (by kernel_rfl) (fun _ _ _ h => h) ?_ hS ?_
            · intro o ho W hW
              unfold execOp
              rw [ho]
              go_simp
              (try rfl)
            try simp only [Act.put, List.setIfInBounds_toArray, List.set_cons_zero, List.set_cons_succ]
            refine wpAnyT_takeK (i := 4) (d := 41) (Op.fieldAddr 106 (Operand.tmp 7) 1) (.pointer (some ⟨H, 1, none⟩)) (by kernel_rfl) (by kernel_rfl) (by kernel_rfl) (by kernel_rfl) (by kernel_rfl) (fun _ _ _ h => h) ?_ hS ?_
            · intro o ho W hW
              unfold execOp
              rw [ho]
              go_simp
              (try rfl)
            try simp only [Act.put, List.setIfInBounds_toArray, List.set_cons_zero, List.set_cons_succ]
            refine wpAnyT_takeK (i := 5) (d := 42) (Op.load 9 (Operand.tmp 41)) (.string y) (by kernel_rfl) (by kernel_rfl) (by kernel_rfl) (by kernel_rfl) (by kernel_rfl) (fun _ _ _ h => h) ?_ hS ?_
            · intro o ho W hW
              have c : W.cell? ⟨H, 1, none⟩ = some (.string y) := BlkIs.cell hW 1
              unfold execOp
              rw [ho]
              go_simp
              (try rfl)
            try simp only [Act.put, List.setIfInBounds_toArray, List.set_cons_zero, List.set_cons_succ]
            refine wpAnyT_takeK (i := 6) (d := 43) (Op.slice 9 (Operand.tmp 42) (some (Operand.const (Value.int IntKind.i64 1))) none none) (.string x) (by kernel_rfl) (by kernel_rfl) (by kernel_rfl) (by kernel_rfl) (by kernel_rfl) (fun _ _ _ h => h) ?_ hS ?_
            · intro o ho W hW
              unfold execOp
              rw [ho]
              go_simp
              (try rfl)
            try simp only [Act.put, List.setIfInBounds_toArray, List.set_cons_zero, List.set_cons_succ]
            refine wpAnyT_takeK (i := 7) (d := 9) (Op.assign (Operand.tmp 40)) (.int .i64 (b.toNat : Int)) (by kernel_rfl) (by kernel_rfl) (by kernel_rfl) (by kernel_rfl) (by kernel_rfl) (fun _ _ _ h => h) ?_ hS ?_
            · intro o ho W hW
              unfold execOp
              rw [ho]
              go_simp
            try simp only [Act.put, List.setIfInBounds_toArray, List.set_cons_zero, List.set_cons_succ]
            refine wpAnyT_takeK (i := 8) (d := 10) (Op.assign (Operand.tmp 43)) (.string x) (by kernel_rfl) (by kernel_rfl) (by kernel_rfl) (by kernel_rfl) (by kernel_rfl) (fun _ _ _ h => h) ?_ hS ?_
            · intro o ho W hW
              unfold execOp
              rw [ho]
              go_simp
            try simp only [Act.put, List.setIfInBounds_toArray, List.set_cons_zero, List.set_cons_succ]
            refine wpAnyT_done (by kernel_rfl) ?_ _
            have t6 : w6.cell? ⟨H, 0, none⟩ = some (.int .i64 34) := HA5.out.cell 0
            have y6 : w6.cell? ⟨H, 1, none⟩ = some (.string y) := HA5.out.cell 1
            have HQA : Hid (RnAt s1 v1 C w6) := Lib.hid (BlkIs.kept HQ2.out HR5.out (fun hm => by cases hm))
            have HQB : Hid (OpRow v1 os1 w6) := Lib.hid (HQ1.out.kept HR5.out (fun _ _ h => by cases h))
            have HTRW : Hid (∀ (s3 : NgS) (os3 : List M.Opt) (W : World), RnTo s3 os3 C v1 w6 W → RnTo s3 os3 C v1 wr W) := Lib.hid (fun s3 os3 W h => RnTo.trans (HR5.out.more (fun x hx => by cases hx)) (fun g hg => .inl hg) h)
            clear hS HK5 HB5 hsl hem hz2 hx0 hsz
            cases m with
            | true =>
              have hst := HSTOP.out ⟨false, s1, os1⟩ w6 (by unfold NgS.take1 NgS.hear; rfl) rfl (HSAME.out _ HR5.out)
              go_wp2
              go_ret
              exact ⟨by rw [hst.1]; rfl, hst.2⟩
            | false =>
              obtain ⟨z1, hz1⟩ : ∃ z, str [b] = z := ⟨_, rfl⟩
              have HZ1 := Lib.hid hz1
              rw [hz1] at hfs
              clear hz1
              have HHV : Hid (v1.ownBlock ≠ some H) := Lib.hid (fun e => by have := HQ1.out.lt H e; have := HH1.out; omega)
              have HLO : Hid (os1.length ≤ 1073741824) := Lib.hid HOS1.out.2
              go_upto_region 25 with fail
              have HR8 := Lib.hid (HR5.out.drewN 1)
              have HQ8 := Lib.hid (HQB.out.kept ((Kept.refl [] w6).drewN 1) (fun _ _ h => by cases h))
              change Hid (Kept [] wr w6.drew) at HR8
              change Hid (OpRow _ _ w6.drew) at HQ8
              refine wp_region_T (fun W => BlkIs #[.int .i64 34, .string y] 106 H W ∧ RnAt s1 v1 C W) 11 (by kernel_rfl) ?_
              have hS := (show BlkIs #[.int .i64 34, .string y] 106 H w6.drew ∧ RnAt s1 v1 C w6.drew from ⟨HA5.out.drewN 1, BlkIs.drewN HQA.out 1⟩)
              generalize w6.drew = w8 at hS HR8 HQ8 ⊢
              refine wpAnyT_takeK (i := 0) (d := 61) (Op.move (Operand.tmp 0)) (.pointer (some ⟨C, 0, none⟩)) (by kernel_rfl) (by kernel_rfl) (by kernel_rfl) (by kernel_rfl) (by kernel_rfl) (fun _ _ _ h => h) ?_ hS ?_
              · intro o ho W hW
                unfold execOp
                rw [ho]
                go_simp
              try simp only [Act.put, List.setIfInBounds_toArray, List.set_cons_zero, List.set_cons_succ]
              refine wpAnyT_takeK (i := 1) (d := 62) (Op.move (Operand.tmp 0)) (.pointer (some ⟨C, 0, none⟩)) (by kernel_rfl) (by kernel_rfl) (by kernel_rfl) (by kernel_rfl) (by kernel_rfl) (fun _ _ _ h => h) ?_ hS ?_
              · intro o ho W hW
                unfold execOp
                rw [ho]
                go_simp
              try simp only [Act.put, List.setIfInBounds_toArray, List.set_cons_zero, List.set_cons_succ]
              refine wpAnyT_takeK (i := 2) (d := 63) (Op.nilCheck (Operand.tmp 62)) (.pointer (some ⟨C, 0, none⟩)) (by kernel_rfl) (by kernel_rfl) (by kernel_rfl) (by kernel_rfl) (by kernel_rfl) (fun _ _ _ h => h) ?_ hS ?_
              · intro o ho W hW
                unfold execOp
                rw [ho]
                go_simp
                (try rfl)
              try simp only [Act.put, List.setIfInBounds_toArray, List.set_cons_zero, List.set_cons_succ]
              refine wpAnyT_takeK (i := 3) (d := 64) (Op.fieldAddr 41 (Operand.tmp 63) 5) (.pointer (some ⟨C, 37, none⟩)) (by kernel_rfl) (by kernel_rfl) (by kernel_rfl) (by kernel_rfl) (by kernel_rfl) (fun _ _ _ h => h) ?_ hS ?_
              · intro o ho W hW
                unfold execOp
                rw [ho]
                go_simp
                (try rfl)
              try simp only [Act.put, List.setIfInBounds_toArray, List.set_cons_zero, List.set_cons_succ]
              refine wpAnyT_takeK (i := 4) (d := 65) (Op.load 28 (Operand.tmp 64)) (v1) (by kernel_rfl) (by kernel_rfl) (by kernel_rfl) (by kernel_rfl) (by kernel_rfl) (fun _ _ _ h => h) ?_ hS ?_
              · intro o ho W hW
                have c : W.cell? ⟨C, 37, none⟩ = some v1 := BlkIs.cell hW.2 37
                unfold execOp
                rw [ho]
                go_simp
                (try rfl)
              try simp only [Act.put, List.setIfInBounds_toArray, List.set_cons_zero, List.set_cons_succ]
              refine wpAnyT_takeK (i := 5) (d := 66) (Op.fieldAddr 106 (Operand.tmp 7) 1) (.pointer (some ⟨H, 1, none⟩)) (by kernel_rfl) (by kernel_rfl) (by kernel_rfl) (by kernel_rfl) (by kernel_rfl) (fun _ _ _ h => h) ?_ hS ?_
              · intro o ho W hW
                unfold execOp
                rw [ho]
                go_simp
                (try rfl)
              try simp only [Act.put, List.setIfInBounds_toArray, List.set_cons_zero, List.set_cons_succ]
              refine wpAnyT_takeK (i := 6) (d := 67) (Op.load 9 (Operand.tmp 66)) (.string y) (by kernel_rfl) (by kernel_rfl) (by kernel_rfl) (by kernel_rfl) (by kernel_rfl) (fun _ _ _ h => h) ?_ hS ?_
              · intro o ho W hW
                have c : W.cell? ⟨H, 1, none⟩ = some (.string y) := BlkIs.cell hW.1 1
                unfold execOp
                rw [ho]
                go_simp
                (try rfl)
              try simp only [Act.put, List.setIfInBounds_toArray, List.set_cons_zero, List.set_cons_succ]
              refine wpAnyT_takeK (i := 7) (d := 68) (Op.slice 9 (Operand.tmp 67) none (some (Operand.const (Value.int IntKind.i64 1))) none) (.string z1) (by kernel_rfl) (by kernel_rfl) (by kernel_rfl) (by kernel_rfl) (by kernel_rfl) (fun _ _ _ h => h) ?_ hS ?_
              · intro o ho W hW
                unfold execOp
                rw [ho]
                go_simp
                (try rfl)
              try simp only [Act.put, List.setIfInBounds_toArray, List.set_cons_zero, List.set_cons_succ]
              refine wpAnyT_takeK (i := 8) (d := 69) (Op.build 106 #[(0, Operand.const (Value.int IntKind.i64 33)), (1, Operand.tmp 68)]) (.agg #[.int .i64 33, .string z1]) (by kernel_rfl) (by kernel_rfl) (by kernel_rfl) (by kernel_rfl) (by kernel_rfl) (fun _ _ _ h => h) ?_ hS ?_
              · intro o ho W hW
                unfold execOp
                rw [ho]
                go_simp
                (try rfl)
              try simp only [Act.put, List.setIfInBounds_toArray, List.set_cons_zero, List.set_cons_succ]
              refine wpAnyT_ready (rs := [9]) (by kernel_rfl) (by simp) ?_
              refine (AllReadyT.cons (o := { dst := some 70, op := Op.buildSlice 28 1 #[(0, Operand.tmp 69)], type := 28, pos := "ref.go:208", after := #[{ on := 8, ground := Ground.data }], guard := none }) (by kernel_rfl) (fun K hK => ?_) AllReadyT.nil)
              go_simp
              refine hK.out _ _ (fun _ => ⟨BlkIs.alloc hS.1 _, BlkIs.alloc hS.2 _⟩) ?_
              clear hK K
              try simp only [Act.put, List.setIfInBounds_toArray, List.set_cons_zero, List.set_cons_succ]
              refine wpAnyT_ready (rs := [10]) (by kernel_rfl) (by simp) ?_
              refine (AllReadyT.cons (o := { dst := some 71, op := Op.call { callee := Callee.builtin Builtin.append, args := #[Operand.tmp 65, Operand.tmp 70], argTypes := #[28, 28] }, type := 28, pos := "ref.go:208", after := #[{ on := 4, ground := Ground.data }, { on := 9, ground := Ground.data }], guard := none }) (by kernel_rfl) (fun K hK => ?_) AllReadyT.nil)
              refine step_optA rfl _ _ rfl v1 os1 rfl w8 ⟨33, [b]⟩ (by show _ = World.alloc _ (.cells #[.int .i64 33, .string (str [b])] _); rw [HZ1.out]) HQ8.out _ rfl rfl HOS1.out.2 ?_
              intro gx cx w9 ho9 hk9 hat9
              have HO9 := Lib.hid ho9
              have HK9 := Lib.hid hk9
              have HT9 := Lib.hid hat9
              clear ho9 hk9 hat9
              replace hS : BlkIs #[.int .i64 34, .string y] 106 H w9 ∧ RnAt s1 v1 C w9 := ⟨BlkIs.kept hS.1 HK9.out (fun hm => HHV.out (mem_ownB.1 hm)), BlkIs.kept hS.2 HK9.out (fun hm => HNE1.out (mem_ownB.1 hm))⟩
              refine hK.out _ _ (fun _ => hS) ?_
              clear hK K
              try simp only [Act.put, List.setIfInBounds_toArray, List.set_cons_zero, List.set_cons_succ]
              refine wpAnyT_tailK (i := 11) (d := 72) (Op.nilCheck (Operand.tmp 61)) (.pointer (some ⟨C, 0, none⟩)) (by kernel_rfl) (by kernel_rfl) (by kernel_rfl) (by kernel_rfl) (by decide) (fun _ _ _ h => h) ?_ ?_
              · intro o ho W
                unfold execOp
                rw [ho]
                go_simp
                (try rfl)
              try simp only [Act.put, List.setIfInBounds_toArray, List.set_cons_zero, List.set_cons_succ]
              refine wpAnyT_tailK (i := 12) (d := 73) (Op.fieldAddr 41 (Operand.tmp 72) 5) (.pointer (some ⟨C, 37, none⟩)) (by kernel_rfl) (by kernel_rfl) (by kernel_rfl) (by kernel_rfl) (by decide) (fun _ _ _ h => h) ?_ ?_
              · intro o ho W
                unfold execOp
                rw [ho]
                go_simp
                (try rfl)
              try simp only [Act.put, List.setIfInBounds_toArray, List.set_cons_zero, List.set_cons_succ]
              refine wpAnyT_ready (rs := [13]) (by kernel_rfl) (by simp) ?_
              refine (AllReadyT.cons (o := { dst := none, op := Op.store 28 (Operand.tmp 73) (Operand.tmp 71), type := 0, pos := "ref.go:208", after := #[{ on := 12, ground := Ground.data }, { on := 10, ground := Ground.data }, { on := 10, ground := Ground.chain }, { on := 0, ground := Ground.phase }, { on := 1, ground := Ground.phase }, { on := 2, ground := Ground.phase }, { on := 3, ground := Ground.phase }, { on := 4, ground := Ground.phase }, { on := 5, ground := Ground.phase }, { on := 6, ground := Ground.phase }, { on := 7, ground := Ground.phase }, { on := 8, ground := Ground.phase }, { on := 9, ground := Ground.phase }, { on := 10, ground := Ground.phase }], guard := none }) (by kernel_rfl) (fun K hK => ?_) AllReadyT.nil)
              have c : w9.cell? ⟨C, 37, none⟩ = some v1 := BlkIs.cell hS.2 37
              have f := BlkIs.free hS.2 37
              go_simp
              refine hK.out _ _ (fun h => absurd h (by decide)) ?_
              clear c f
              clear hK K
              try simp only [Act.put, List.setIfInBounds_toArray, List.set_cons_zero, List.set_cons_succ]
              refine wpAnyT_done (by kernel_rfl) ?_ _
              go_wp2
              have hnx := HNEXT.out ⟨true, s1, os1 ++ [⟨33, [b]⟩]⟩ false _ (by unfold NgS.take1 NgS.hear; rfl) rfl (by decide) (rnAnswer_end (C := C) HNE1.out (HR8.out.more (fun x hx => by cases hx)) hS.2 HO9.out HK9.out (by rcases HT9.out with h | h; exact .inl (by rw [h]; rfl); exact .inr (by rw [h]; rfl)))
              refine ⟨⟨k + 1, false, by first | rfl | go_num, by go_num, by omega, hnx.1, hnx.2.1, hnx.2.2⟩, ?_⟩
              simp [intOf]; omega
        have n34 : decide (T = 34) = false := decide_eq_false hK
        have b34 : (T == 34) = false := by rw [beq_eq_false_iff_ne]; exact hK
        have N34 := Lib.hid hK
        clear hK
        by_cases hK : T = 35
        · subst hK
          cases dl with
          | nil =>
            have hst := HSTOP.out ⟨false, s1, os1⟩ w5 (by unfold NgS.take1; rfl) rfl (HSAME.out _ HK5.out)
            have hy0 : y = ⟨#[]⟩ := by rw [← HY.out]; rfl
            subst hy0
            go_wp2
            go_ret
            exact ⟨by rw [hst.1]; rfl, hst.2⟩
          | cons b l =>
            obtain ⟨hz, hx⟩ := str_head b l
            have hsl := str_tail b l
            have hfs := str_first b l
            have hem := str_ne (l := b :: l) (by simp)
            have hll : l.length ≤ 9223372036854775807 := by simp at hdl; omega
            have hz2 : 0 < y.size := by rw [← HY.out]; exact hz
            have hx0 : y[0] = b := by
              have hyy := HY.out
              subst hyy
              exact hx _
            have hsz : y.size ≤ 9223372036854775807 := by rw [← HY.out]; exact hdl
            have hwp : IntKind.i64.wrap (b.toNat : Int) = (b.toNat : Int) := IntWalk.i64_in _ (by have := UInt8.toNat_lt b; omega)
            rw [HY.out] at hsl hfs hem
            clear hz hx
            obtain ⟨x, hxl⟩ : ∃ x, str l = x := ⟨_, rfl⟩
            have HXL := Lib.hid hxl
            rw [hxl] at hsl
            clear hxl
            go_upto_region 19 with fail
            have HR5 := Lib.hid (HK5.out.drewN 1)
            have HA5 := Lib.hid (HB5.out.drewN 1)
            change Hid (Kept [] wr w5.drew) at HR5
            change Hid (BlkIs _ _ H w5.drew) at HA5
            clear t5 y5
            refine wp_region_T (fun W => BlkIs #[.int .i64 35, .string y] 106 H W) 9 (by kernel_rfl) ?_
            have hS := (show BlkIs #[.int .i64 35, .string y] 106 H w5.drew from HB5.out.drewN 1)
            generalize w5.drew = w6 at hS HR5 HA5 ⊢
            refine wpAnyT_takeK (i := 0) (d := 37) (Op.fieldAddr 106 (Operand.tmp 7) 1) (.pointer (some ⟨H, 1, none⟩)) (by kernel_rfl) (by kernel_rfl) (by kernel_rfl) (by kernel_rfl) (by kernel_rfl) (fun _ _ _ h => h) ?_ hS ?_
            · intro o ho W hW
              unfold execOp
              rw [ho]
              go_simp
              (try rfl)
            try simp only [Act.put, List.setIfInBounds_toArray, List.set_cons_zero, List.set_cons_succ]
            refine wpAnyT_takeK (i := 1) (d := 38) (Op.load 9 (Operand.tmp 37)) (.string y) (by kernel_rfl) (by kernel_rfl) (by kernel_rfl) (by kernel_rfl) (by kernel_rfl) (fun _ _ _ h => h) ?_ hS ?_
            · intro o ho W hW
              have c : W.cell? ⟨H, 1, none⟩ = some (.string y) := BlkIs.cell hW 1
              unfold execOp
              rw [ho]
              go_simp
              (try rfl)
            try simp only [Act.put, List.setIfInBounds_toArray, List.set_cons_zero, List.set_cons_succ]
            refine wpAnyT_takeK (i := 2) (d := 39) (Op.index 9 (Operand.tmp 38) (Operand.const (Value.int IntKind.i64 0))) (.int .u8 (b.toNat : Int)) (by kernel_rfl) (by kernel_rfl) (by kernel_rfl) (by kernel_rfl) (by kernel_rfl) (fun _ _ _ h => h) ?_ hS ?_
            · intro o ho W hW
              unfold execOp
              rw [ho]
              go_simp
              (try rfl)
            try simp only [Act.put, List.setIfInBounds_toArray, List.set_cons_zero, List.set_cons_succ]
            refine wpAnyT_takeK (i := 3) (d := 40) (Op.convert 5 3 (Operand.tmp 39)) (.int .i64 (b.toNat : Int)) (by kernel_rfl) (by kernel_rfl) (by kernel_rfl) (by kernel_rfl) (by kernel_rfl) (fun _ _ _ h => h) ?_ hS ?_
            · intro o ho W hW
              unfold execOp
              rw [ho]
              go_simp
              (try rfl)
            try simp only [Act.put, List.setIfInBounds_toArray, List.set_cons_zero, List.set_cons_succ]
            refine wpAnyT_takeK (i := 4) (d := 41) (Op.fieldAddr 106 (Operand.tmp 7) 1) (.pointer (some ⟨H, 1, none⟩)) (by kernel_rfl) (by kernel_rfl) (by kernel_rfl) (by kernel_rfl) (by kernel_rfl) (fun _ _ _ h => h) ?_ hS ?_
            · intro o ho W hW
              unfold execOp
              rw [ho]
              go_simp
              (try rfl)
            try simp only [Act.put, List.setIfInBounds_toArray, List.set_cons_zero, List.set_cons_succ]
            refine wpAnyT_takeK (i := 5) (d := 42) (Op.load 9 (Operand.tmp 41)) (.string y) (by kernel_rfl) (by kernel_rfl) (by kernel_rfl) (by kernel_rfl) (by kernel_rfl) (fun _ _ _ h => h) ?_ hS ?_
            · intro o ho W hW
              have c : W.cell? ⟨H, 1, none⟩ = some (.string y) := BlkIs.cell hW 1
              unfold execOp
              rw [ho]
              go_simp
              (try rfl)
            try simp only [Act.put, List.setIfInBounds_toArray, List.set_cons_zero, List.set_cons_succ]
            refine wpAnyT_takeK (i := 6) (d := 43) (Op.slice 9 (Operand.tmp 42) (some (Operand.const (Value.int IntKind.i64 1))) none none) (.string x) (by kernel_rfl) (by kernel_rfl) (by kernel_rfl) (by kernel_rfl) (by kernel_rfl) (fun _ _ _ h => h) ?_ hS ?_
            · intro o ho W hW
              unfold execOp
              rw [ho]
              go_simp
              (try rfl)
            try simp only [Act.put, List.setIfInBounds_toArray, List.set_cons_zero, List.set_cons_succ]
            refine wpAnyT_takeK (i := 7) (d := 9) (Op.assign (Operand.tmp 40)) (.int .i64 (b.toNat : Int)) (by kernel_rfl) (by kernel_rfl) (by kernel_rfl) (by kernel_rfl) (by kernel_rfl) (fun _ _ _ h => h) ?_ hS ?_
            · intro o ho W hW
              unfold execOp
              rw [ho]
              go_simp
            try simp only [Act.put, List.setIfInBounds_toArray, List.set_cons_zero, List.set_cons_succ]
            refine wpAnyT_takeK (i := 8) (d := 10) (Op.assign (Operand.tmp 43)) (.string x) (by kernel_rfl) (by kernel_rfl) (by kernel_rfl) (by kernel_rfl) (by kernel_rfl) (fun _ _ _ h => h) ?_ hS ?_
            · intro o ho W hW
              unfold execOp
              rw [ho]
              go_simp
            try simp only [Act.put, List.setIfInBounds_toArray, List.set_cons_zero, List.set_cons_succ]
            refine wpAnyT_done (by kernel_rfl) ?_ _
            have t6 : w6.cell? ⟨H, 0, none⟩ = some (.int .i64 35) := HA5.out.cell 0
            have y6 : w6.cell? ⟨H, 1, none⟩ = some (.string y) := HA5.out.cell 1
            have HQA : Hid (RnAt s1 v1 C w6) := Lib.hid (BlkIs.kept HQ2.out HR5.out (fun hm => by cases hm))
            have HQB : Hid (OpRow v1 os1 w6) := Lib.hid (HQ1.out.kept HR5.out (fun _ _ h => by cases h))
            have HTRW : Hid (∀ (s3 : NgS) (os3 : List M.Opt) (W : World), RnTo s3 os3 C v1 w6 W → RnTo s3 os3 C v1 wr W) := Lib.hid (fun s3 os3 W h => RnTo.trans (HR5.out.more (fun x hx => by cases hx)) (fun g hg => .inl hg) h)
            clear hS HK5 HB5 hsl hfs hem hz2 hx0 hsz
            have HCF := Lib.hid (rnConfirm_any s1 v1 (b.toNat : Int) l hll HOK1.out C w6 HQA.out)
            rw [HXL.out] at HCF
            have HTK2 : Hid (∀ (s3 : NgS) (W : World), RnAt s3 v1 C W → Kept [C] w6 W → RnTo s3 os1 C v1 wr W) := Lib.hid (fun s3 W h7 k7 => HTRW.out _ _ _ (RnTo.kept HQB.out h7 k7 HNE1.out))
            cases hcf : s1.confirm (b.toNat : Int) l with
            | none =>
              rw [hcf] at HCF
              have HE : Hid (s1.take1 os1 ⟨35, b :: l⟩ m = ⟨false, s1, os1⟩) := Lib.hid (by unfold NgS.take1; show s1.hear os1 35 b l m = _; unfold NgS.hear; rw [if_neg (by decide), if_neg (by decide), if_pos rfl, hcf])
              clear hcf
              go_wp2_with (go_at_call 73; (with_reducible refine HCF.out.mono ?_); rintro e w7 ⟨rfl, h7, k7⟩; have H7 := Lib.hid (HTK2.out _ _ h7 k7); clear h7 k7)
              have hst := HSTOP.out ⟨false, s1, os1⟩ w7 HE.out rfl H7.out
              go_ret
              exact ⟨by rw [hst.1]; rfl, hst.2⟩
            | some s2 =>
              rw [hcf] at HCF
              have HE : Hid (s1.take1 os1 ⟨35, b :: l⟩ m = ⟨true, s2, os1⟩) := Lib.hid (by unfold NgS.take1; show s1.hear os1 35 b l m = _; unfold NgS.hear; rw [if_neg (by decide), if_neg (by decide), if_pos rfl, hcf])
              clear hcf
              go_wp2_with (go_at_call 73; (with_reducible refine HCF.out.mono ?_); rintro e w7 ⟨rfl, h7, k7⟩; have H7 := Lib.hid (HTK2.out _ _ h7 k7); clear h7 k7)
              have hnx := HNEXT.out ⟨true, s2, os1⟩ false w7 HE.out rfl (by decide) H7.out
              refine ⟨⟨k + 1, false, by first | rfl | go_num, by go_num, by omega, hnx.1, hnx.2.1, hnx.2.2⟩, ?_⟩
              simp [intOf]; omega
        have n35 : decide (T = 35) = false := decide_eq_false hK
        have b35 : (T == 35) = false := by rw [beq_eq_false_iff_ne]; exact hK
        have N35 := Lib.hid hK
        clear hK
        have hkd : ngKind T = false := by unfold ngKind; exact decide_eq_false (by have := N32.out; have := N33.out; have := N34.out; have := N35.out; omega)
        have HKD := Lib.hid hkd
        clear hkd
        by_cases hq : T = 38 ∨ T = 39 ∨ T = 43 ∨ T = 193 ∨ T = 194
        · have hnx := HNEXT.out ⟨true, s1, os1⟩ false w5 (by unfold NgS.take1; rw [if_neg (by rw [HKD.out]; decide), if_pos (by unfold ngQuiet; exact decide_eq_true hq)]) rfl dT.symm (HSAME.out _ HK5.out)
          rcases hq with rfl | rfl | rfl | rfl | rfl
          all_goals
            go_wp2
            refine ⟨⟨k + 1, false, by first | rfl | go_num, by go_num, by omega, hnx.1, hnx.2.1, hnx.2.2⟩, ?_⟩
            simp [intOf]; omega
        · have m38 : decide (T = 38) = false := decide_eq_false (by omega)
          have B38 : (T == 38) = false := by rw [beq_eq_false_iff_ne]; omega
          have m39 : decide (T = 39) = false := decide_eq_false (by omega)
          have B39 : (T == 39) = false := by rw [beq_eq_false_iff_ne]; omega
          have m43 : decide (T = 43) = false := decide_eq_false (by omega)
          have B43 : (T == 43) = false := by rw [beq_eq_false_iff_ne]; omega
          have m193 : decide (T = 193) = false := decide_eq_false (by omega)
          have B193 : (T == 193) = false := by rw [beq_eq_false_iff_ne]; omega
          have m194 : decide (T = 194) = false := decide_eq_false (by omega)
          have B194 : (T == 194) = false := by rw [beq_eq_false_iff_ne]; omega
          have HE : Hid (s1.take1 os1 ⟨T, dl⟩ m = ⟨!m, s1, os1⟩) := Lib.hid (by unfold NgS.take1; rw [if_neg (by rw [HKD.out]; decide), if_neg (by unfold ngQuiet; simpa using hq)])
          clear hq
          cases m with
          | true =>
            have hst := HSTOP.out ⟨false, s1, os1⟩ w5 (by rw [HE.out]; rfl) rfl (HSAME.out _ HK5.out)
            go_wp2
            go_ret
            exact ⟨by rw [hst.1]; rfl, hst.2⟩
          | false =>
            have hnx := HNEXT.out ⟨true, s1, os1⟩ false w5 (by rw [HE.out]; rfl) rfl dT.symm (HSAME.out _ HK5.out)
            go_wp2
            refine ⟨⟨k + 1, false, by first | rfl | go_num, by go_num, by omega, hnx.1, hnx.2.1, hnx.2.2⟩, ?_⟩
            simp [intOf]; omega
    · have hkN : k = N := by omega
      have HT9 : s.takeTo os los k = TK := by rw [hkN]; exact HTK.out
      have hNd : decide ((k : Int) < (N : Int)) = false := decide_eq_false (by omega)
      rw [HT9] at hgo hto
      have HG := Lib.hid hgo.out
      have HT := Lib.hid hto.out
      clear hgo hto HT9 hkN
      go_wp2
      go_ret
      exact ⟨by rw [HG.out]; rfl, HT.out⟩
end Go.Proofs.YtnhlachoimlhhaaGreatDoor

namespace Go.Proofs.YtnhlachoimlhhaaGreatDoor
open Go.ChangeShapes Go.WideShapes Go.ChangeAt Go.RowKit
set_option linter.unusedVariables false

end Go.Proofs.YtnhlachoimlhhaaGreatDoor

namespace Go.Proofs.YtnhlachoimlhhaaGreatDoor
open Go.ChangeShapes Go.WideShapes Go.ChangeAt Go.RowKit
set_option linter.unusedVariables false

theorem OptsAt.parts {w : World} {v : Value} {os : List M.Opt} (h : OptsAt w v os) : ∃ p cap, v = .slice p os.length cap ∧ ∀ i, i < os.length → ∃ b o, p = some ⟨b, o, none⟩ ∧ b < w.heap.size ∧
    w.cell? ⟨b, o + i * 2, none⟩ = some (.int .i64 (os.getD i ⟨0, []⟩).t) ∧ w.cell? ⟨b, o + i * 2 + 1, none⟩ = some (.string (str (os.getD i ⟨0, []⟩).d)) := by
  rcases h.at_ with ⟨rfl, a, cap, rfl⟩ | ⟨b, o, cap, rfl, hb, hc⟩
  · exact ⟨a, cap, rfl, fun i hi => absurd hi (Nat.not_lt_zero i)⟩
  · exact ⟨_, cap, rfl, fun i hi => ⟨b, o, rfl, hb, (hc i hi).1, (hc i hi).2⟩⟩

set_option maxHeartbeats 2000000 in
set_option maxRecDepth 100000 in
theorem opts_same (w : World) (v1 v2 : Value) (os : List M.Opt) (h1 : OptsAt w v1 os) (h2 : OptsAt w v2 os) :
    Calls Tryz.prog 21 #[v1, v2] w fun e w' => e = .returned (.bool true) ∧ ∃ n, w' = w.drewN n := by
  have hlen := h1.len
  obtain ⟨p1, cap1, rfl, hp1⟩ := h1.parts
  obtain ⟨p2, cap2, rfl, hp2⟩ := h2.parts
  have HP1 := Lib.hid hp1; have HP2 := Lib.hid hp2
  clear hp1 hp2 h1 h2
  generalize hn : os.length = n at *
  clear hn
  go_enter Tryz.func21, Tryz.ntmps21
  go_wp2
  go_loopw [13] (fun i wr => ∃ k : Nat, k ≤ n ∧ i = .int .i64 (k : Int) ∧ Hid (∃ m, wr = w.drewN m)) (fun i _ => n - (intOf i).toNat)
  case atStart => exact ⟨0, Nat.zero_le _, rfl, Lib.hid ⟨0, rfl⟩⟩
  case round =>
    obtain ⟨k, hk, rfl, hm⟩ := hrel
    by_cases hkn : k < n
    · obtain ⟨b1, o1, rfl, hb1, c1, d1⟩ := HP1.out k hkn
      obtain ⟨b2, o2, rfl, hb2, c2, d2⟩ := HP2.out k hkn
      have hcw : ∀ a, wr.cell? a = w.cell? a := by
        obtain ⟨m, rfl⟩ := hm.out
        exact fun a => rfl
      rw [← hcw] at c1 d1 c2 d2
      generalize (os.getD k ⟨0, []⟩).t = t at *
      generalize (os.getD k ⟨0, []⟩).d = d at *
      generalize str d = ds at *
      clear hcw
      go_upto_region 6 with fail
      go_quiet (fail)
      go_wp2
      refine ⟨⟨k + 1, by omega, by go_num, Lib.hid ?_⟩, ?_⟩
      · obtain ⟨m, rfl⟩ := hm.out
        exact ⟨_, World.drewN_drewN _ _ _⟩
      · simp [intOf]; omega
    · go_wp2
      go_ret
      exact ⟨rfl, hm.out⟩
end Go.Proofs.YtnhlachoimlhhaaGreatDoor

namespace Go.Proofs.YtnhlachoimlhhaaGreatDoor
open Go.ChangeShapes Go.WideShapes Go.ChangeAt Go.RowKit
set_option linter.unusedVariables false
set_option linter.unusedSimpArgs false

structure Nr (s1 : NgS) (o1 : List M.Opt) (v : Value) (s2 : NgS) (o2 : List M.Opt) (u : Value) (C D : Nat) (w W : World) : Prop where
  r1 : OpRow v o1 W
  n1 : NgAt s1 v C W
  r2 : OpRow u o2 W
  n2 : RnAt s2 u D W
  ap : ∀ g, v.ownBlock = some g → u.ownBlock ≠ some g
  b1 : ∀ g, v.ownBlock = some g → w.heap.size ≤ g
  b2 : ∀ g, u.ownBlock = some g → w.heap.size ≤ g
  bel : Below w.heap.size w W
  hc : w.heap.size ≤ C
  hd : w.heap.size ≤ D
  ne : C ≠ D
theorem Nr.v1 {s1 s2 : NgS} {o1 o2 : List M.Opt} {v u : Value} {C D : Nat} {w W : World} (a : Nr s1 o1 v s2 o2 u C D w W) : v.ownBlock ≠ some C := a.r1.blk a.n1 (by decide)
theorem Nr.v2 {s1 s2 : NgS} {o1 o2 : List M.Opt} {v u : Value} {C D : Nat} {w W : World} (a : Nr s1 o1 v s2 o2 u C D w W) : v.ownBlock ≠ some D := a.r1.blk a.n2 (by decide)
theorem Nr.u1 {s1 s2 : NgS} {o1 o2 : List M.Opt} {v u : Value} {C D : Nat} {w W : World} (a : Nr s1 o1 v s2 o2 u C D w W) : u.ownBlock ≠ some C := a.r2.blk a.n1 (by decide)
theorem Nr.u2 {s1 s2 : NgS} {o1 o2 : List M.Opt} {v u : Value} {C D : Nat} {w W : World} (a : Nr s1 o1 v s2 o2 u C D w W) : u.ownBlock ≠ some D := a.r2.blk a.n2 (by decide)
theorem Nr.nD {s1 s2 : NgS} {o1 o2 : List M.Opt} {v u : Value} {C D : Nat} {w W : World} (a : Nr s1 o1 v s2 o2 u C D w W) : D ∉ C :: ownB v := fun hm => by
  rcases List.mem_cons.1 hm with e | e
  · exact a.ne e.symm
  · exact a.v2 (mem_ownB.1 e)
theorem Nr.nC {s1 s2 : NgS} {o1 o2 : List M.Opt} {v u : Value} {C D : Nat} {w W : World} (a : Nr s1 o1 v s2 o2 u C D w W) : C ∉ D :: ownB u := fun hm => by
  rcases List.mem_cons.1 hm with e | e
  · exact a.ne e
  · exact a.u1 (mem_ownB.1 e)
theorem Nr.first {s1 s2 s3 : NgS} {o1 o2 o3 : List M.Opt} {v u : Value} {C D : Nat} {w W W' : World} (a : Nr s1 o1 v s2 o2 u C D w W) (h : NgTo s3 o3 C v W W') : ∃ v', Nr s3 o3 v' s2 o2 u C D w W' := by
  obtain ⟨v', r, n, k, ow⟩ := h
  refine ⟨v', r, n, a.r2.kept k (fun g hg hm => ?_), BlkIs.kept a.n2 k a.nD, fun g hg hu => ?_, fun g hg => ?_, a.b2, a.bel.trans (k.below a.bel.size (fun x hx => ?_)), a.hc, a.hd, a.ne⟩
  · rcases List.mem_cons.1 hm with e | e
    · exact a.u1 (e ▸ hg)
    · exact a.ap g (mem_ownB.1 e) hg
  · rcases ow g hg with h | h
    · exact a.ap g h hu
    · have := a.r2.lt g hu
      omega
  · rcases ow g hg with h | h
    · exact a.b1 g h
    · have := a.bel.size
      omega
  · rcases List.mem_cons.1 hx with e | e
    · rw [e]; exact a.hc
    · exact a.b1 x (mem_ownB.1 e)
theorem Nr.second {s1 s2 s3 : NgS} {o1 o2 o3 : List M.Opt} {v u : Value} {C D : Nat} {w W W' : World} (a : Nr s1 o1 v s2 o2 u C D w W) (h : RnTo s3 o3 D u W W') : ∃ u', Nr s1 o1 v s3 o3 u' C D w W' := by
  obtain ⟨u', r, n, k, ow⟩ := h
  refine ⟨u', a.r1.kept k (fun g hg hm => ?_), BlkIs.kept a.n1 k a.nC, r, n, fun g hg hu => ?_, a.b1, fun g hg => ?_, a.bel.trans (k.below a.bel.size (fun x hx => ?_)), a.hc, a.hd, a.ne⟩
  · rcases List.mem_cons.1 hm with e | e
    · exact a.v2 (e ▸ hg)
    · exact a.ap g hg (mem_ownB.1 e)
  · rcases ow g hu with h | h
    · exact a.ap g hg h
    · have := a.r1.lt g hg
      omega
  · rcases ow g hg with h | h
    · exact a.b2 g h
    · have := a.bel.size
      omega
  · rcases List.mem_cons.1 hx with e | e
    · rw [e]; exact a.hd
    · exact a.b2 x (mem_ownB.1 e)
theorem Nr.kept {s1 s2 : NgS} {o1 o2 : List M.Opt} {v u : Value} {C D : Nat} {w W W' : World} (a : Nr s1 o1 v s2 o2 u C D w W) (k : Kept [] W W') : Nr s1 o1 v s2 o2 u C D w W' :=
  ⟨a.r1.kept k (fun _ _ h => by cases h), BlkIs.kept a.n1 k (fun h => by cases h), a.r2.kept k (fun _ _ h => by cases h), BlkIs.kept a.n2 k (fun h => by cases h), a.ap, a.b1, a.b2, a.bel.trans (k.below a.bel.size (fun x hx => by cases hx)), a.hc, a.hd, a.ne⟩
/-- A store into a block of the law's own. -/
theorem Nr.own {s1 s2 : NgS} {o1 o2 : List M.Opt} {v u : Value} {C D : Nat} {w W W' : World} (a : Nr s1 o1 v s2 o2 u C D w W) {H : Nat} (k : Kept [H] W W') (h1 : H ≠ C) (h2 : H ≠ D) (h3 : v.ownBlock ≠ some H) (h4 : u.ownBlock ≠ some H) (h5 : w.heap.size ≤ H) : Nr s1 o1 v s2 o2 u C D w W' :=
  ⟨a.r1.kept k (fun g hg hm => by rw [List.mem_singleton.1 hm] at hg; exact h3 hg), BlkIs.kept a.n1 k (fun hm => h1 (List.mem_singleton.1 hm).symm), a.r2.kept k (fun g hg hm => by rw [List.mem_singleton.1 hm] at hg; exact h4 hg), BlkIs.kept a.n2 k (fun hm => h2 (List.mem_singleton.1 hm).symm), a.ap, a.b1, a.b2, a.bel.trans (k.below a.bel.size (fun x hx => by rw [List.mem_singleton.1 hx]; exact h5)), a.hc, a.hd, a.ne⟩
def NgS.wantS (s : NgS) (f : Int) (l : List UInt8) : NgS := if ngJudge f l = 0 then { s with want := upd s.want f l } else s
def NgS.likeS (s : NgS) (f : Int) (l : List UInt8) : NgS := if ngJudge f l = 0 then { s with like := upd s.like f l } else s
theorem judge_may {f : Int} {l : List UInt8} (h : ngJudge f l = 0) : ftMay f l = true := by
  unfold ngJudge at h
  split at h
  · split at h
    · assumption
    · cases h
  · cases h
theorem NgS.Ok.wantS {s : NgS} (h : s.Ok) (f : Int) (l : List UInt8) : (s.wantS f l).Ok := by
  unfold NgS.wantS
  split
  · exact h.want_ f l (judge_may (by assumption))
  · exact h
theorem NgS.Ok.likeS {s : NgS} (h : s.Ok) (f : Int) (l : List UInt8) : (s.likeS f l).Ok := by
  unfold NgS.likeS
  split
  · exact h.like_ f l (judge_may (by assumption))
  · exact h
section
variable {s1 s2 : NgS} {o1 o2 : List M.Opt} {v u : Value} {C D : Nat} {w W : World}
theorem NgTo.blk {s : NgS} {os : List M.Opt} {C : Nat} {v : Value} {w w' : World} (h : NgTo s os C v w w') {cs : Array Value} {T H : Nat} (b : BlkIs cs T H w) (h1 : H ≠ C) (h2 : v.ownBlock ≠ some H) : BlkIs cs T H w' := by
  obtain ⟨_, _, _, k, _⟩ := h
  exact b.kept k (fun hm => by
    rcases List.mem_cons.1 hm with e | e
    · exact h1 e
    · exact h2 (mem_ownB.1 e))
theorem RnTo.blk {s : NgS} {os : List M.Opt} {C : Nat} {v : Value} {w w' : World} (h : RnTo s os C v w w') {cs : Array Value} {T H : Nat} (b : BlkIs cs T H w) (h1 : H ≠ C) (h2 : v.ownBlock ≠ some H) : BlkIs cs T H w' := by
  obtain ⟨_, _, _, k, _⟩ := h
  exact b.kept k (fun hm => by
    rcases List.mem_cons.1 hm with e | e
    · exact h1 e
    · exact h2 (mem_ownB.1 e))
theorem Nr.want1 (a : Nr s1 o1 v s2 o2 u C D w W) (f : Int) (l : List UInt8) (hl : l.length ≤ 9223372036854775807) :
    Calls Tryz.prog 18 #[.pointer (some ⟨C, 0, none⟩), .int .i64 f, .string (str l)] W fun e w' => e = .returned (.int .i64 (ngJudge f l)) ∧ NgTo (s1.wantS f l) o1 C v W w' :=
  (ngWant_any s1 v f l hl C W a.n1).mono fun e w' ⟨e1, h, k⟩ => ⟨e1, NgTo.kept a.r1 h k a.v1⟩
theorem Nr.like1 (a : Nr s1 o1 v s2 o2 u C D w W) (f : Int) (l : List UInt8) (hl : l.length ≤ 9223372036854775807) :
    Calls Tryz.prog 20 #[.pointer (some ⟨C, 0, none⟩), .int .i64 f, .string (str l)] W fun e w' => e = .returned (.int .i64 (ngJudge f l)) ∧ NgTo (s1.likeS f l) o1 C v W w' :=
  (ngLike_any s1 v f l hl C W a.n1).mono fun e w' ⟨e1, h, k⟩ => ⟨e1, NgTo.kept a.r1 h k a.v1⟩
theorem Nr.want2 (a : Nr s1 o1 v s2 o2 u C D w W) (f : Int) (l : List UInt8) (hl : l.length ≤ 9223372036854775807) :
    Calls Tryz.prog 19 #[.pointer (some ⟨D, 0, none⟩), .int .i64 f, .string (str l), .bool false] W fun e w' => e = .returned (.int .i64 (ngJudge f l)) ∧ RnTo (s2.wantS f l) o2 D u W w' :=
  (rnWant_any s2 u f l hl false D W a.n2).mono fun e w' ⟨e1, h, k⟩ => ⟨e1, RnTo.kept a.r2 (by unfold NgS.wantS; simpa using h) k a.u2⟩
theorem Nr.like2 (a : Nr s1 o1 v s2 o2 u C D w W) (f : Int) (l : List UInt8) (hl : l.length ≤ 9223372036854775807) :
    Calls Tryz.prog 19 #[.pointer (some ⟨D, 0, none⟩), .int .i64 f, .string (str l), .bool true] W fun e w' => e = .returned (.int .i64 (ngJudge f l)) ∧ RnTo (s2.likeS f l) o2 D u W w' :=
  (rnWant_any s2 u f l hl true D W a.n2).mono fun e w' ⟨e1, h, k⟩ => ⟨e1, RnTo.kept a.r2 (by unfold NgS.likeS; simpa using h) k a.u2⟩
theorem Nr.opts1 (a : Nr s1 o1 v s2 o2 u C D w W) (hok : s1.Ok) (hlen : o1.length ≤ 1000000) :
    Calls Tryz.prog 22 #[.pointer (some ⟨C, 0, none⟩)] W fun e w' => ∃ x, e = .returned x ∧ OpRow x (o1 ++ s1.asks) w' ∧ Nr s1 [] (.slice none 0 0) s2 o2 u C D w w' ∧ (∀ g, x.ownBlock = some g → u.ownBlock ≠ some g) := by
  refine (ngOpts_any s1 o1 v C W a.n1 a.r1 hok hlen).mono ?_
  rintro e w' ⟨x, rfl, hx, hn, k, ow⟩
  refine ⟨x, rfl, hx, ⟨OpRow.nil _, hn, a.r2.kept k (fun g hg hm => ?_), BlkIs.kept a.n2 k a.nD, fun g hg => (by cases hg), fun g hg => (by cases hg), a.b2, a.bel.trans (k.below a.bel.size (fun x hx => ?_)), a.hc, a.hd, a.ne⟩, fun g hg hu => ?_⟩
  · rcases List.mem_cons.1 hm with e | e
    · exact a.u1 (e ▸ hg)
    · exact a.ap g (mem_ownB.1 e) hg
  · rcases List.mem_cons.1 hx with e | e
    · rw [e]; exact a.hc
    · exact a.b1 x (mem_ownB.1 e)
  · rcases ow g hg with h | h
    · exact a.ap g h hu
    · have := a.r2.lt g hu
      omega
theorem Nr.opts2 (a : Nr s1 o1 v s2 o2 u C D w W) (hok : s2.Ok) (hlen : o2.length ≤ 1000000) :
    Calls Tryz.prog 23 #[.pointer (some ⟨D, 0, none⟩)] W fun e w' => ∃ y, e = .returned y ∧ OpRow y (o2 ++ s2.asks) w' ∧ Nr s1 o1 v s2 [] (.slice none 0 0) C D w w' ∧ Kept (D :: ownB u) W w' := by
  refine (rnOpts_any s2 o2 u D W a.n2 a.r2 hok hlen).mono ?_
  rintro e w' ⟨y, rfl, hy, hn, k, ow⟩
  refine ⟨y, rfl, hy, ⟨a.r1.kept k (fun g hg hm => ?_), BlkIs.kept a.n1 k a.nC, OpRow.nil _, hn, fun g hg hu => (by cases hu), a.b1, fun g hg => (by cases hg), a.bel.trans (k.below a.bel.size (fun x hx => ?_)), a.hc, a.hd, a.ne⟩, k⟩
  · rcases List.mem_cons.1 hm with e | e
    · exact a.v2 (e ▸ hg)
    · exact a.ap g hg (mem_ownB.1 e)
  · rcases List.mem_cons.1 hx with e | e
    · rw [e]; exact a.hd
    · exact a.b2 x (mem_ownB.1 e)
end
theorem OpRow.optsAt {v : Value} {os : List M.Opt} {W : World} (h : OpRow v os W) (hl : os.length ≤ 1073741824) (hd : ∀ o ∈ os, o.d.length ≤ 64) : OptsAt W v os :=
  OptsOwn.at (B := 0) (W0 := W) ⟨h, Below.refl _ _, Nat.zero_le _⟩ (by omega) (fun o ho => by have := hd o ho; unfold maxLen; omega)
set_option maxHeartbeats 2000000 in
set_option maxRecDepth 100000 in
theorem ngTake_empty (C : Nat) (p : Option Addr) (c : Nat) (W : World) : Calls Tryz.prog 24 #[.pointer (some ⟨C, 0, none⟩), .slice p 0 c] W fun e w' => e = .returned (.bool true) ∧ Kept [] W w' := by
  go_enter Tryz.func24, Tryz.ntmps24
  go_wp2
  refine wp_loop_rounds 1 ?_
  rw [rounds_succ]
  go_wp2
  go_ret
  exact ⟨rfl, Kept.refl _ _⟩
set_option maxHeartbeats 2000000 in
set_option maxRecDepth 100000 in
theorem rnTake_empty (C : Nat) (p : Option Addr) (c : Nat) (W : World) : Calls Tryz.prog 25 #[.pointer (some ⟨C, 0, none⟩), .slice p 0 c] W fun e w' => e = .returned (.bool true) ∧ Kept [] W w' := by
  go_enter Tryz.func25, Tryz.ntmps25
  go_wp2
  refine wp_loop_rounds 1 ?_
  rw [rounds_succ]
  go_wp2
  go_ret
  exact ⟨rfl, Kept.refl _ _⟩
theorem Nr.take1 {s1 s2 : NgS} {o1 o2 : List M.Opt} {v u : Value} {C D : Nat} {w W : World} (a : Nr s1 o1 v s2 o2 u C D w W) (L : Value) (los : List M.Opt) (hok : s1.Ok) (hlen : o1.length + los.length ≤ 1000000) (hL : OptsAt w L los) :
    Calls Tryz.prog 24 #[.pointer (some ⟨C, 0, none⟩), L] W fun e w' => e = .returned (.bool (s1.take o1 los).ok) ∧ NgTo (s1.take o1 los).s (s1.take o1 los).due C v W w' := by
  cases los with
  | nil =>
    obtain ⟨p, cap, rfl, _⟩ := hL.cellsN
    refine (ngTake_empty C p cap W).mono ?_
    rintro e w' ⟨rfl, k⟩
    exact ⟨rfl, NgTo.same a.n1 a.r1 k⟩
  | cons x xs =>
    obtain ⟨p, cap, hp, hc⟩ := hL.cellsN
    obtain ⟨b, o, hpb, hob, hb, _⟩ := hc 0 (by simp)
    refine ngTake_any s1 o1 v L (x :: xs) hok C W a.n1 a.r1 hlen (hL.below a.bel) (fun g hg => ?_)
    rw [hob] at hg
    injection hg with hg
    subst hg
    have := a.hc
    exact ⟨by omega, fun e => by have := a.b1 _ e; omega⟩
theorem Nr.take2 {s1 s2 : NgS} {o1 o2 : List M.Opt} {v u : Value} {C D : Nat} {w W : World} (a : Nr s1 o1 v s2 o2 u C D w W) (L : Value) (los : List M.Opt) (hok : s2.Ok) (hlen : o2.length + los.length ≤ 1000000) (hL : OptsAt w L los) :
    Calls Tryz.prog 25 #[.pointer (some ⟨D, 0, none⟩), L] W fun e w' => e = .returned (.bool (s2.take o2 los).ok) ∧ RnTo (s2.take o2 los).s (s2.take o2 los).due D u W w' := by
  cases los with
  | nil =>
    obtain ⟨p, cap, rfl, _⟩ := hL.cellsN
    refine (rnTake_empty D p cap W).mono ?_
    rintro e w' ⟨rfl, k⟩
    exact ⟨rfl, RnTo.same a.n2 a.r2 k⟩
  | cons x xs =>
    obtain ⟨p, cap, hp, hc⟩ := hL.cellsN
    obtain ⟨b, o, hpb, hob, hb, _⟩ := hc 0 (by simp)
    refine rnTake_any s2 o2 u L (x :: xs) hok D W a.n2 a.r2 hlen (hL.below a.bel) (fun g hg => ?_)
    rw [hob] at hg
    injection hg with hg
    subst hg
    have := a.hd
    exact ⟨by omega, fun e => by have := a.b2 _ e; omega⟩
theorem rn_mine {s : NgS} {due : Value} {D : Nat} {W : World} (h : RnAt s due D W) (F : Nat) (hF : F < 9) : W.cell? ⟨D, 19 + F, none⟩ = some (.string (str (if ftKnown (F : Int) = true then s.mine (F : Int) else []))) := by
  have : F = 0 ∨ F = 1 ∨ F = 2 ∨ F = 3 ∨ F = 4 ∨ F = 5 ∨ F = 6 ∨ F = 7 ∨ F = 8 := by omega
  rcases this with rfl | rfl | rfl | rfl | rfl | rfl | rfl | rfl | rfl <;> exact BlkIs.cell h _
theorem rn_their {s : NgS} {due : Value} {D : Nat} {W : World} (h : RnAt s due D W) (F : Nat) (hF : F < 9) : W.cell? ⟨D, 28 + F, none⟩ = some (.string (str (if ftKnown (F : Int) = true then s.theirs (F : Int) else []))) := by
  have : F = 0 ∨ F = 1 ∨ F = 2 ∨ F = 3 ∨ F = 4 ∨ F = 5 ∨ F = 6 ∨ F = 7 ∨ F = 8 := by omega
  rcases this with rfl | rfl | rfl | rfl | rfl | rfl | rfl | rfl | rfl <;> exact BlkIs.cell h _
/-- What is due is short. -/
def shortO (os : List M.Opt) : Prop := ∀ o ∈ os, o.d.length ≤ 64
theorem hear_short {s : NgS} (h : s.Ok) (due : List M.Opt) (t : Int) (b : UInt8) (v : List UInt8) (must : Bool) (hs : shortO due) : shortO (s.hear due t b v must).due := by
  have key : ∀ x : M.Opt, x.d.length ≤ 64 → shortO (due ++ [x]) := fun x hx o ho => by
    rcases List.mem_append.1 ho with h1 | h1
    · exact hs o h1
    · rw [List.mem_singleton.1 h1]; exact hx
  unfold NgS.hear
  split
  · split
    · exact hs
    · exact key _ (by have := h.says (b.toNat : Int) v; simp; omega)
  · split
    · split
      · exact hs
      · exact key _ (by simp)
    · split
      · split <;> exact hs
      · exact hs
theorem take1_short {s : NgS} (h : s.Ok) (due : List M.Opt) (o : M.Opt) (must : Bool) (hs : shortO due) : shortO (s.take1 due o must).due := by
  unfold NgS.take1
  split
  · split
    · exact hs
    · exact hear_short h _ _ _ _ _ hs
  · split <;> exact hs
theorem takeTo_short {s : NgS} (h : s.Ok) (due os : List M.Opt) (hs : shortO due) : ∀ k, shortO (s.takeTo due os k).due
  | 0 => hs
  | k + 1 => by
    have ih := takeTo_short h due os hs k
    unfold NgS.takeTo
    dsimp only
    split
    · exact take1_short (NgS.Ok.takeTo h due os k).1 _ _ _ ih
    · exact ih
theorem asks_short {s : NgS} (h : s.Ok) (os : List M.Opt) (hs : shortO os) : shortO (os ++ s.asks) := by
  intro o ho
  rcases List.mem_append.1 ho with h1 | h1
  · exact hs o h1
  · unfold NgS.asks NgS.ask at h1
    have k1 := h.want_len ((1 : UInt8).toNat : Int)
    have k3 := h.want_len ((3 : UInt8).toNat : Int)
    have k6 := h.want_len ((6 : UInt8).toNat : Int)
    have k8 := h.want_len ((8 : UInt8).toNat : Int)
    simp only [List.mem_append] at h1
    rcases h1 with ((h1 | h1) | h1) | h1
    all_goals
      split at h1
      · cases h1
      · rw [List.mem_singleton.1 h1]
        simp only [List.length_cons]
        omega
theorem asks_len (s : NgS) : s.asks.length ≤ 4 := by
  rw [← s.rnAsks_all]
  exact s.rnAsks_len 4
end Go.Proofs.YtnhlachoimlhhaaGreatDoor

namespace Go.Proofs.YtnhlachoimlhhaaGreatDoor
open Go.ChangeShapes Go.WideShapes Go.Deep Go.RowKit
set_option linter.unusedVariables false

theorem list_ofN {P : Nat → M.Opt → Prop} : ∀ m, (∀ i, i < m → ∃ o, P i o) → ∃ os : List M.Opt, os.length = m ∧ ∀ i, i < m → P i (os.getD i ⟨0, []⟩) := by
  intro m
  induction m with
  | zero => intro _; exact ⟨[], rfl, fun i hi => absurd hi (Nat.not_lt_zero i)⟩
  | succ m ih =>
    intro h
    obtain ⟨os, hl, ho⟩ := ih (fun i hi => h i (by omega))
    obtain ⟨o, hp⟩ := h m (by omega)
    refine ⟨os ++ [o], by simp [hl], fun i hi => ?_⟩
    by_cases e : i < m
    · have := ho i e
      rw [List.getD_eq_getElem?_getD] at this ⊢
      rwa [List.getElem?_append_left (by omega)]
    · obtain rfl : i = m := by omega
      rw [List.getD_eq_getElem?_getD, List.getElem?_append_right (by omega), hl]
      simpa using hp
theorem cell_addN {w : World} {base : Nat} {a : Addr} {n : Nat} {cs : List Value} (h : w.cells? base a n = some cs) : cs.length = n ∧ ∀ j, j < n → w.cell? (a.add j) = cs[j]? := by
  obtain ⟨_, hcl, hat⟩ := World.cells?_some h
  exact ⟨hcl, hat⟩
theorem addr_plainN {w : World} {a : Addr} {v : Value} (h : w.cell? (a.add 0) = some v) : ∃ b o, a = ⟨b, o, none⟩ ∧ b < w.heap.size := by
  have e : a.add 0 = a := by unfold Addr.add; split <;> simp_all
  rw [e] at h
  have hs : a.spot = none := by
    unfold World.cell? at h
    split at h
    · cases hsp : a.spot with
      | none => rfl
      | some x => rw [hsp] at h; simp at h
    · cases h
  have hb := World.block_lt_of_cell? w a h
  obtain ⟨b, o, sp⟩ := a
  simp only at hs
  subst hs
  exact ⟨b, o, rfl, hb⟩
theorem add_plainN (b o k : Nat) : (⟨b, o, none⟩ : Addr).add k = ⟨b, o + k, none⟩ := by unfold Addr.add; split <;> simp_all
set_option maxRecDepth 100000 in
theorem open_optsN {H : Type} {enc : TypeId × Value → H} {W : World} {fuel : Nat} {x : Value} {y : DataW H × List MemPlace}
    (hf : DataW.trod enc Tryz.prog W 0 (fun _ => true) true fuel 28 [x] = some y) : ∃ (p : Option Addr) (n c : Nat), x = .slice p n c ∧ n ≤ c ∧ c ≤ 9223372036854775807 ∧ ∃ os : List M.Opt, os.length = min n 8 ∧ OptsAt W (.slice p os.length c) os := by
  rcases open_slice Tryz.underlying28 hf with ⟨hcs, hx⟩ | ⟨a, len, cap, m, n', D, Pl, hcs, hb, hl, hm, hmm, hx, hi⟩
  · injection hcs with hcs
    subst hcs
    exact ⟨none, 0, 0, rfl, by omega, by omega, [], by simp, ⟨.inl ⟨rfl, none, 0, rfl⟩, by simp, by simp⟩⟩
  · injection hcs with hcs
    subst hcs
    have hm' : cap ≤ 9223372036854775807 := hm
    simp only [if_true] at hmm
    have hC : Tryz.prog.cellsOf 106 = 2 := by kernel_rfl
    rw [hC] at hi
    have key : ∀ i, i < m → ∃ o : M.Opt, W.cell? ((a.add (i * 2)).add 0) = some (.int .i64 o.t) ∧ W.cell? ((a.add (i * 2)).add 1) = some (.string (str o.d)) ∧ o.d.length ≤ maxLen := by
      intro i him
      obtain ⟨cs', hc, ht'⟩ := hi i him
      obtain ⟨hcl, hat⟩ := cell_addN hc
      obtain ⟨ys, n2, hn2, hy, hlen, hyl, hff⟩ := DataW.trod_struct Tryz.underlying106 ht'
      match cs', hcl with
      | [x0, x1], _ =>
        have h0 := hff 0 _ rfl
        have h1 := hff 1 _ rfl
        have e0 : ys[0]? = some (ys[0]'(by rw [hyl]; decide)) := List.getElem?_eq_getElem _
        have e1 : ys[1]? = some (ys[1]'(by rw [hyl]; decide)) := List.getElem?_eq_getElem _
        rw [e0] at h0
        rw [e1] at h1
        have k0 : DataW.trod enc Tryz.prog W 0 (fun _ => true) true n2 3 [x0] = some (ys[0]'(by rw [hyl]; decide)) := h0
        have k1 : DataW.trod enc Tryz.prog W 0 (fun _ => true) true n2 9 [x1] = some (ys[1]'(by rw [hyl]; decide)) := h1
        obtain ⟨z, hz, _, _⟩ := DataW.trod_int Tryz.underlying3 k0
        obtain ⟨s, hs, _, hsl⟩ := DataW.trod_string Tryz.underlying9 k1
        simp at hz hs
        subst hz hs
        refine ⟨⟨z, s.data.toList⟩, hat 0 (by decide), ?_, by simpa using hsl⟩
        rw [← str_eq]
        exact hat 1 (by decide)
    obtain ⟨os, hol, ho⟩ := list_ofN (min len 8) (fun i hi' => key i (by omega))
    refine ⟨some a, len, cap, rfl, hl, hm', os, hol, ?_⟩
    rcases Nat.eq_zero_or_pos len with h0 | hpos
    · have : os = [] := List.eq_nil_of_length_eq_zero (by omega)
      subst this
      exact ⟨.inl ⟨rfl, _, _, rfl⟩, by simp, by simp⟩
    · have g0 := (ho 0 (by omega)).1
      have ea : a.add (0 * 2) = a := by rw [Nat.zero_mul]; unfold Addr.add; simp
      rw [ea] at g0
      obtain ⟨b, o, rfl, hblk⟩ := addr_plainN g0
      refine ⟨.inr ⟨b, o, cap, rfl, hblk, fun i hi' => ?_⟩, by omega, fun x hx => ?_⟩
      · have h1 := ho i (by omega)
        rw [add_plainN, add_plainN, add_plainN] at h1
        exact ⟨by simpa using h1.1, h1.2.1⟩
      · obtain ⟨i, hi1, hi2⟩ := List.getElem_of_mem hx
        have h1 := (ho i (by omega)).2.2
        rw [List.getD_eq_getElem?_getD, List.getElem?_eq_getElem hi1, Option.getD_some, hi2] at h1
        exact h1
/-- The first m operations of a row, as they lie. -/
def NgopAt (W : World) (p : Option Addr) (m : Nat) : Prop := ∀ i, i < m → ∃ (q o : Nat) (kd f : Int) (vs : ByteArray) (pa : Option Addr) (n c : Nat) (los : List M.Opt),
  p = some ⟨q, o, none⟩ ∧ q < W.heap.size ∧ W.cell? ⟨q, o + i * 4, none⟩ = some (.int .i64 kd) ∧ W.cell? ⟨q, o + i * 4 + 1, none⟩ = some (.int .i64 f) ∧ W.cell? ⟨q, o + i * 4 + 2, none⟩ = some (.string vs) ∧ W.cell? ⟨q, o + i * 4 + 3, none⟩ = some (.slice pa n c) ∧
  vs.size ≤ maxLen ∧ n ≤ c ∧ c ≤ 9223372036854775807 ∧ los.length = min n 8 ∧ OptsAt W (.slice pa los.length c) los
set_option maxRecDepth 100000 in
set_option maxHeartbeats 1000000 in
theorem open_nops {H : Type} {enc : TypeId × Value → H} {W : World} {p : Option Addr} {n c : Nat} {d : DataW H} {q : List MemPlace}
    (h : DataW.Trod enc Tryz.prog W 0 (fun _ => true) true 22 (.slice p n c) d q) : n ≤ c ∧ c ≤ 9223372036854775807 ∧ NgopAt W p (min n 40) := by
  obtain ⟨fuel, hf⟩ := h
  rcases open_slice Tryz.underlying22 hf with ⟨hcs, hx⟩ | ⟨a, len, cap, m, n', D, Pl, hcs, hb, hl, hm, hmm, hx, hi⟩
  · simp [Value.cells] at hcs
    obtain ⟨rfl, rfl, rfl⟩ := hcs
    exact ⟨by omega, by omega, fun i hi => absurd hi (by omega)⟩
  · simp [Value.cells] at hcs
    obtain ⟨rfl, rfl, rfl⟩ := hcs
    have hm' : c ≤ 9223372036854775807 := hm
    simp only [if_true] at hmm
    have hC : Tryz.prog.cellsOf 30 = 4 := by kernel_rfl
    rw [hC] at hi
    refine ⟨hl, hm', fun i hin => ?_⟩
    obtain ⟨cs', hc, ht'⟩ := hi i (by omega)
    obtain ⟨hcl, hat⟩ := cell_addN hc
    obtain ⟨ys, n2, hn2, hy, hlen, hyl, hff⟩ := DataW.trod_struct Tryz.underlying30 ht'
    match cs', hcl with
    | [x0, x1, x2, x3], _ =>
      have e0 : ys[0]? = some (ys[0]'(by rw [hyl]; decide)) := List.getElem?_eq_getElem _
      have e1 : ys[1]? = some (ys[1]'(by rw [hyl]; decide)) := List.getElem?_eq_getElem _
      have e2 : ys[2]? = some (ys[2]'(by rw [hyl]; decide)) := List.getElem?_eq_getElem _
      have e3 : ys[3]? = some (ys[3]'(by rw [hyl]; decide)) := List.getElem?_eq_getElem _
      have h0 := hff 0 _ rfl
      have h1 := hff 1 _ rfl
      have h2 := hff 2 _ rfl
      have h3 := hff 3 _ rfl
      rw [e0] at h0
      rw [e1] at h1
      rw [e2] at h2
      rw [e3] at h3
      have k0 : DataW.trod enc Tryz.prog W 0 (fun _ => true) true n2 3 [x0] = some (ys[0]'(by rw [hyl]; decide)) := h0
      have k1 : DataW.trod enc Tryz.prog W 0 (fun _ => true) true n2 3 [x1] = some (ys[1]'(by rw [hyl]; decide)) := h1
      have k2 : DataW.trod enc Tryz.prog W 0 (fun _ => true) true n2 9 [x2] = some (ys[2]'(by rw [hyl]; decide)) := h2
      have k3 : DataW.trod enc Tryz.prog W 0 (fun _ => true) true n2 28 [x3] = some (ys[3]'(by rw [hyl]; decide)) := h3
      obtain ⟨z0, hz0, _, w0⟩ := DataW.trod_int Tryz.underlying3 k0
      obtain ⟨z1, hz1, _, w1⟩ := DataW.trod_int Tryz.underlying3 k1
      obtain ⟨s2, hs2, _, hsl⟩ := DataW.trod_string Tryz.underlying9 k2
      obtain ⟨pa, na, ca, rfl, hna, hca, los, hlos, hat3⟩ := open_optsN k3
      simp at hz0 hz1 hs2
      subst hz0 hz1 hs2
      have c0 := hat 0 (by decide)
      have c1 := hat 1 (by decide)
      have c2 := hat 2 (by decide)
      have c3 := hat 3 (by decide)
      obtain ⟨cs0, hc0, _⟩ := hi 0 (by omega)
      obtain ⟨hcl0, hat0⟩ := cell_addN hc0
      have g0 := hat0 0 (by decide)
      rw [List.getElem?_eq_getElem (by omega), Nat.zero_mul] at g0
      have ea : a.add 0 = a := by unfold Addr.add; simp
      rw [ea] at g0
      obtain ⟨b, o, rfl, _⟩ := addr_plainN g0
      rw [add_plainN, add_plainN] at c0 c1 c2 c3
      exact ⟨b, o, z0, z1, s2, pa, na, ca, los, rfl, World.block_lt_of_cell? W _ c0, c0, c1, c2, c3, hsl, hna, hca, hlos, hat3⟩
end Go.Proofs.YtnhlachoimlhhaaGreatDoor

namespace Go.Proofs.YtnhlachoimlhhaaGreatDoor
open Go.ChangeShapes Go.WideShapes Go.ChangeAt Go.RowKit
set_option linter.unusedVariables false
set_option linter.unusedSimpArgs false

set_option maxHeartbeats 16000000 in
set_option maxRecDepth 100000 in
theorem negoAll_walk (server : Bool) (p : Option Addr) (n cp : Nat) (hn : n ≤ 9223372036854775807) (w : World) (hI : NgopAt w p (min n 40))
    (hbg : Calls Tryz.prog 14 #[] w fun e w' => e = .returned (.bool true) ∧ Below w.heap.size w w') :
    Calls Tryz.prog 3 #[.bool server, .slice p n cp] w fun e w' => e = .returned (.bool true) ∧ Below w.heap.size w w' := by
  have HBG := Lib.hid hbg
  have HI := Lib.hid hI
  have HN1 := Lib.hid (fun W => ngNew_any server W)
  have HN2 := Lib.hid (fun W => rnNew_any server W)
  clear hI hbg
  go_enter Tryz.func3, Tryz.ntmps3
  go_upto_region 5 with (first
    | (go_at_call 14; (with_reducible refine HBG.out.mono ?_); rintro e w0 ⟨rfl, hb0⟩)
    | (go_at_call 15; (with_reducible refine (HN1.out _).mono ?_); rintro e w1 ⟨rfl, h1, hb1⟩)
    | (go_at_call 16; (with_reducible refine (HN2.out _).mono ?_); rintro e w2 ⟨rfl, h2, hb2⟩))
  have hnr0 : Nr (ngInit server) [] (.slice none 0 0) (ngInit server) [] (.slice none 0 0) w0.heap.size w1.heap.size w w2 :=
    ⟨OpRow.nil _, BlkIs.below h1 hb2, OpRow.nil _, h2, (fun g hg => by cases hg), (fun g hg => by cases hg), (fun g hg => by cases hg), bel_trans hb0 (bel_trans hb1 hb2), hb0.size, Nat.le_trans hb0.size hb1.size, by have := BlkIs.lt h1; omega⟩
  obtain ⟨C, hC⟩ : ∃ C, w0.heap.size = C := ⟨_, rfl⟩
  obtain ⟨D, hD⟩ : ∃ D, w1.heap.size = D := ⟨_, rfl⟩
  rw [hC, hD] at hnr0
  rw [hC, hD]
  have HNR := Lib.hid hnr0
  clear hnr0 h1 h2 hb0 hb1 hb2 hC hD HN1 HN2 HBG
  go_wp2
  go_loopw [8] (fun iv wr => ∃ (i : Nat) (s : NgS) (os : List M.Opt) (v u : Value), iv = .int .i64 (i : Int) ∧ i ≤ min n 40 ∧ Hid s.Ok ∧ Hid (os.length ≤ 8 * i) ∧ Hid (shortO os) ∧ Hid (Nr s os v s os u C D w wr)) (fun iv _ => min n 40 - (intOf iv).toNat)
  case atStart => exact ⟨0, ngInit server, [], .slice none 0 0, .slice none 0 0, rfl, Nat.zero_le _, Lib.hid (ngInit_ok server), Lib.hid (by simp), Lib.hid (fun o h => by cases h), HNR⟩
  case round =>
    clear HNR
    obtain ⟨i, s, os, v, u, rfl, hi, hok, hol, hsh, hnr⟩ := hrel
    by_cases hil : i < min n 40
    · have d3 : decide ((i : Int) < (n : Int)) = true := decide_eq_true (by omega)
      have d4 : decide ((i : Int) < 40) = true := decide_eq_true (by omega)
      have i00 : (0 : Int) ≤ (i : Int) := by omega
      have i0n : (i : Int) < (n : Int) := by omega
      obtain ⟨q, o, kd, f, vs, pa, na, ca, los, rfl, hq, c0, c1, c2, c3, hvs, hna, hca, hlos, hat⟩ := HI.out i hil
      have k0 : wr.cell? ⟨q, o + i * 4, none⟩ = some (.int .i64 kd) := (hnr.out.bel.cell (p := ⟨q, o + i * 4, none⟩) hq).trans c0
      have k1 : wr.cell? ⟨q, o + i * 4 + 1, none⟩ = some (.int .i64 f) := (hnr.out.bel.cell (p := ⟨q, o + i * 4 + 1, none⟩) hq).trans c1
      have k2 : wr.cell? ⟨q, o + i * 4 + 2, none⟩ = some (.string vs) := (hnr.out.bel.cell (p := ⟨q, o + i * 4 + 2, none⟩) hq).trans c2
      have k3 : wr.cell? ⟨q, o + i * 4 + 3, none⟩ = some (.slice pa na ca) := (hnr.out.bel.cell (p := ⟨q, o + i * 4 + 3, none⟩) hq).trans c3
      obtain ⟨l, hl, htx⟩ := text_cutN vs 20 (by decide) hvs
      have HTX : Hid (∀ W, Calls Tryz.prog 17 #[.string vs, .int .i64 20] W fun e w' => e = .returned (.string (str l)) ∧ W = w') := Lib.hid htx
      have hl9 : l.length ≤ 9223372036854775807 := by omega
      have HAT := Lib.hid hat
      have HLO := Lib.hid hlos
      obtain ⟨H, hH⟩ : ∃ H, wr.heap.size = H := ⟨_, rfl⟩
      have HHX : Hid (H ≠ C ∧ H ≠ D ∧ v.ownBlock ≠ some H ∧ u.ownBlock ≠ some H) := Lib.hid (by
        have e1 := BlkIs.lt hnr.out.n1
        have e2 := BlkIs.lt hnr.out.n2
        exact ⟨by omega, by omega, fun e => by have := hnr.out.r1.lt H e; omega, fun e => by have := hnr.out.r2.lt H e; omega⟩)
      have HHB : Hid (w.heap.size ≤ H) := Lib.hid (by rw [← hH]; exact hnr.out.bel.size)
      clear htx hat hlos c0 c1 c2 c3 hq hvs
      go_upto_region 9 with fail
      obtain ⟨w5, hw5⟩ : ∃ X, wr.alloc (.cells #[.int .i64 kd, .int .i64 f, .string vs, .slice pa na ca] 30) = X := ⟨_, rfl⟩
      have HB5 : Hid (BlkIs #[.int .i64 kd, .int .i64 f, .string vs, .slice pa na ca] 30 H w5) := Lib.hid (by rw [← hw5, ← hH]; exact BlkIs.new _ _ _)
      have HN5 : Hid (Nr s os v s os u C D w w5) := Lib.hid (by rw [← hw5]; exact hnr.out.kept ((Kept.refl [] wr).alloc _))
      (try rw [hw5])
      (try rw [hH])
      clear hw5 hH k0 k1 k2 k3 hnr
      have t2 : w5.cell? ⟨H, 2, none⟩ = some (.string vs) := HB5.out.cell 2
      have g2 := HB5.out.free 2
      go_upto_region 10 with (go_at_call 17; (with_reducible refine (HTX.out _).mono ?_); rintro e wq ⟨rfl, rfl⟩)
      obtain ⟨wo, hwo⟩ : ∃ X, w5.setCell ⟨H, 2, none⟩ (.string (str l)) = X := ⟨_, rfl⟩
      have HBO : Hid (BlkIs #[.int .i64 kd, .int .i64 f, .string (str l), .slice pa na ca] 30 H wo) := Lib.hid (by rw [← hwo]; exact HB5.out.set 2 _)
      have HNO : Hid (Nr s os v s os u C D w wo) := Lib.hid (by
        rw [← hwo]
        exact HN5.out.own (H := H) ((Kept.refl [H] w5).setCell (.inl (by simp)) _) HHX.out.1 HHX.out.2.1 HHX.out.2.2.1 HHX.out.2.2.2 HHB.out)
      rw [hwo]
      clear hwo t2 g2 HB5 HN5 HTX
      have t0 : wo.cell? ⟨H, 0, none⟩ = some (.int .i64 kd) := HBO.out.cell 0
      have t3 : wo.cell? ⟨H, 3, none⟩ = some (.slice pa na ca) := HBO.out.cell 3
      go_upto_block 2 with fail
      go_cut [10] (fun okv wx => okv = .bool true ∧ ∃ (s2 : NgS) (os2 : List M.Opt) (v2 u2 : Value), Hid s2.Ok ∧ Hid (os2.length ≤ 8 * (i + 1)) ∧ Hid (shortO os2) ∧ Hid (Nr s2 os2 v2 s2 os2 u2 C D w wx))
      case first =>
        have hlen : os.length ≤ 1000000 := by have := hol.out; omega
        by_cases hk0 : kd = 0
        · subst hk0
          go_upto_region 15 with fail
          refine wp_region_T (fun W => BlkIs #[.int .i64 0, .int .i64 f, .string (str l), .slice pa na ca] 30 H W) 14 (by kernel_rfl) ?_
          have hS := (show BlkIs #[.int .i64 0, .int .i64 f, .string (str l), .slice pa na ca] 30 H wo.drew from HBO.out.drewN 1)
          have HNW := Lib.hid (HNO.out.kept ((Kept.refl [] wo).drewN 1))
          change Hid (Nr s os v s os u C D w wo.drew) at HNW
          generalize wo.drew = Wd at hS HNW ⊢
          refine wpAnyT_takeK (i := 0) (d := 56) (Op.move (Operand.tmp 6)) (.pointer (some ⟨C, 0, none⟩)) (by kernel_rfl) (by kernel_rfl) (by kernel_rfl) (by kernel_rfl) (by kernel_rfl) (fun _ _ _ h => h) ?_ hS ?_
          · intro o ho W hW
            unfold execOp
            rw [ho]
            go_simp
          try simp only [Act.put, List.setIfInBounds_toArray, List.set_cons_zero, List.set_cons_succ]
          refine wpAnyT_takeK (i := 1) (d := 57) (Op.fieldAddr 30 (Operand.tmp 9) 1) (.pointer (some ⟨H, 1, none⟩)) (by kernel_rfl) (by kernel_rfl) (by kernel_rfl) (by kernel_rfl) (by kernel_rfl) (fun _ _ _ h => h) ?_ hS ?_
          · intro o ho W hW
            unfold execOp
            rw [ho]
            go_simp
            (try rfl)
          try simp only [Act.put, List.setIfInBounds_toArray, List.set_cons_zero, List.set_cons_succ]
          refine wpAnyT_takeK (i := 2) (d := 58) (Op.load 3 (Operand.tmp 57)) (.int .i64 f) (by kernel_rfl) (by kernel_rfl) (by kernel_rfl) (by kernel_rfl) (by kernel_rfl) (fun _ _ _ h => h) ?_ hS ?_
          · intro o ho W hW
            have c : W.cell? ⟨H, 1, none⟩ = some (.int .i64 f) := BlkIs.cell hW 1
            unfold execOp
            rw [ho]
            go_simp
            (try rfl)
          try simp only [Act.put, List.setIfInBounds_toArray, List.set_cons_zero, List.set_cons_succ]
          refine wpAnyT_takeK (i := 3) (d := 59) (Op.fieldAddr 30 (Operand.tmp 9) 2) (.pointer (some ⟨H, 2, none⟩)) (by kernel_rfl) (by kernel_rfl) (by kernel_rfl) (by kernel_rfl) (by kernel_rfl) (fun _ _ _ h => h) ?_ hS ?_
          · intro o ho W hW
            unfold execOp
            rw [ho]
            go_simp
            (try rfl)
          try simp only [Act.put, List.setIfInBounds_toArray, List.set_cons_zero, List.set_cons_succ]
          refine wpAnyT_takeK (i := 4) (d := 60) (Op.load 9 (Operand.tmp 59)) (.string (str l)) (by kernel_rfl) (by kernel_rfl) (by kernel_rfl) (by kernel_rfl) (by kernel_rfl) (fun _ _ _ h => h) ?_ hS ?_
          · intro o ho W hW
            have c : W.cell? ⟨H, 2, none⟩ = some (.string (str l)) := BlkIs.cell hW 2
            unfold execOp
            rw [ho]
            go_simp
            (try rfl)
          try simp only [Act.put, List.setIfInBounds_toArray, List.set_cons_zero, List.set_cons_succ]
          refine wpAnyT_takeK (i := 6) (d := 62) (Op.move (Operand.tmp 7)) (.pointer (some ⟨D, 0, none⟩)) (by kernel_rfl) (by kernel_rfl) (by kernel_rfl) (by kernel_rfl) (by kernel_rfl) (fun _ _ _ h => h) ?_ hS ?_
          · intro o ho W hW
            unfold execOp
            rw [ho]
            go_simp
          try simp only [Act.put, List.setIfInBounds_toArray, List.set_cons_zero, List.set_cons_succ]
          refine wpAnyT_takeK (i := 7) (d := 63) (Op.fieldAddr 30 (Operand.tmp 9) 1) (.pointer (some ⟨H, 1, none⟩)) (by kernel_rfl) (by kernel_rfl) (by kernel_rfl) (by kernel_rfl) (by kernel_rfl) (fun _ _ _ h => h) ?_ hS ?_
          · intro o ho W hW
            unfold execOp
            rw [ho]
            go_simp
            (try rfl)
          try simp only [Act.put, List.setIfInBounds_toArray, List.set_cons_zero, List.set_cons_succ]
          refine wpAnyT_takeK (i := 8) (d := 64) (Op.load 3 (Operand.tmp 63)) (.int .i64 f) (by kernel_rfl) (by kernel_rfl) (by kernel_rfl) (by kernel_rfl) (by kernel_rfl) (fun _ _ _ h => h) ?_ hS ?_
          · intro o ho W hW
            have c : W.cell? ⟨H, 1, none⟩ = some (.int .i64 f) := BlkIs.cell hW 1
            unfold execOp
            rw [ho]
            go_simp
            (try rfl)
          try simp only [Act.put, List.setIfInBounds_toArray, List.set_cons_zero, List.set_cons_succ]
          refine wpAnyT_takeK (i := 9) (d := 65) (Op.fieldAddr 30 (Operand.tmp 9) 2) (.pointer (some ⟨H, 2, none⟩)) (by kernel_rfl) (by kernel_rfl) (by kernel_rfl) (by kernel_rfl) (by kernel_rfl) (fun _ _ _ h => h) ?_ hS ?_
          · intro o ho W hW
            unfold execOp
            rw [ho]
            go_simp
            (try rfl)
          try simp only [Act.put, List.setIfInBounds_toArray, List.set_cons_zero, List.set_cons_succ]
          refine wpAnyT_takeK (i := 10) (d := 66) (Op.load 9 (Operand.tmp 65)) (.string (str l)) (by kernel_rfl) (by kernel_rfl) (by kernel_rfl) (by kernel_rfl) (by kernel_rfl) (fun _ _ _ h => h) ?_ hS ?_
          · intro o ho W hW
            have c : W.cell? ⟨H, 2, none⟩ = some (.string (str l)) := BlkIs.cell hW 2
            unfold execOp
            rw [ho]
            go_simp
            (try rfl)
          try simp only [Act.put, List.setIfInBounds_toArray, List.set_cons_zero, List.set_cons_succ]
          refine wpAnyT_ready (rs := [5]) (by kernel_rfl) (by simp) ?_
          refine (AllReadyT.cons (o := { dst := some 61, op := Op.call { callee := Callee.value (Operand.func 18), args := #[Operand.tmp 56, Operand.tmp 58, Operand.tmp 60], argTypes := #[24, 3, 9] }, type := 32, pos := "law.go:81", after := #[{ on := 0, ground := Ground.data }, { on := 2, ground := Ground.data }, { on := 4, ground := Ground.data }], guard := none }) (by kernel_rfl) (fun K hK => ?_) AllReadyT.nil)
          go_simp
          go_at_call 18
          with_reducible refine (HNW.out.want1 f l hl9).mono ?_
          rintro e wk ⟨rfl, hk1⟩
          have HT1 := Lib.hid hk1
          obtain ⟨v2, hn2⟩ := HNW.out.first HT1.out
          have HN2 := Lib.hid hn2
          replace hS := HT1.out.blk hS HHX.out.1 HHX.out.2.2.1
          clear hk1 hn2
          refine hK.out _ _ (fun _ => hS) ?_
          clear hK K
          try simp only [Act.put, List.setIfInBounds_toArray, List.set_cons_zero, List.set_cons_succ]
          refine wpAnyT_ready (rs := [11]) (by kernel_rfl) (by simp) ?_
          refine (AllReadyT.cons (o := { dst := some 67, op := Op.call { callee := Callee.value (Operand.func 19), args := #[Operand.tmp 62, Operand.tmp 64, Operand.tmp 66, Operand.const (Value.bool false)], argTypes := #[26, 3, 9, 4] }, type := 32, pos := "law.go:81", after := #[{ on := 6, ground := Ground.data }, { on := 8, ground := Ground.data }, { on := 10, ground := Ground.data }, { on := 5, ground := Ground.chain }], guard := none }) (by kernel_rfl) (fun K hK => ?_) AllReadyT.nil)
          go_simp
          go_at_call 19
          with_reducible refine (HN2.out.want2 f l hl9).mono ?_
          rintro e wk2 ⟨rfl, hk2⟩
          have HT2 := Lib.hid hk2
          obtain ⟨u2, hn3⟩ := HN2.out.second HT2.out
          have HN3 := Lib.hid hn3
          replace hS := HT2.out.blk hS HHX.out.2.1 HHX.out.2.2.2
          clear hk2 hn3
          refine hK.out _ _ (fun _ => hS) ?_
          clear hK K
          try simp only [Act.put, List.setIfInBounds_toArray, List.set_cons_zero, List.set_cons_succ]
          refine wpAnyT_takeK (i := 12) (d := 68) (Op.binOp BinOp.eql 32 (Operand.tmp 61) (Operand.tmp 67) 32) (.bool true) (by kernel_rfl) (by kernel_rfl) (by kernel_rfl) (by kernel_rfl) (by kernel_rfl) (fun _ _ _ h => h) ?_ hS ?_
          · intro o ho W hW
            unfold execOp
            rw [ho]
            go_simp
            (try rfl)
          try simp only [Act.put, List.setIfInBounds_toArray, List.set_cons_zero, List.set_cons_succ]
          refine wpAnyT_takeK (i := 13) (d := 10) (Op.assign (Operand.tmp 68)) (.bool true) (by kernel_rfl) (by kernel_rfl) (by kernel_rfl) (by kernel_rfl) (by kernel_rfl) (fun _ _ _ h => h) ?_ hS ?_
          · intro o ho W hW
            unfold execOp
            rw [ho]
            go_simp
          try simp only [Act.put, List.setIfInBounds_toArray, List.set_cons_zero, List.set_cons_succ]
          refine wpAnyT_done (by kernel_rfl) ?_ _
          go_wp2
          go_meet
          exact ⟨rfl, s.wantS f l, os, v2, u2, Lib.hid (hok.out.wantS f l), Lib.hid (by have := hol.out; omega), hsh, HN3⟩
        have n0 : decide (kd = 0) = false := decide_eq_false hk0
        have m0 : (kd == 0) = false := by rw [beq_eq_false_iff_ne]; exact hk0
        clear hk0
        by_cases hk1 : kd = 1
        · subst hk1
          go_upto_region 17 with fail
          refine wp_region_T (fun W => BlkIs #[.int .i64 1, .int .i64 f, .string (str l), .slice pa na ca] 30 H W) 14 (by kernel_rfl) ?_
          have hS := (show BlkIs #[.int .i64 1, .int .i64 f, .string (str l), .slice pa na ca] 30 H wo.drew from HBO.out.drewN 1)
          have HNW := Lib.hid (HNO.out.kept ((Kept.refl [] wo).drewN 1))
          change Hid (Nr s os v s os u C D w wo.drew) at HNW
          generalize wo.drew = Wd at hS HNW ⊢
          refine wpAnyT_takeK (i := 0) (d := 71) (Op.move (Operand.tmp 6)) (.pointer (some ⟨C, 0, none⟩)) (by kernel_rfl) (by kernel_rfl) (by kernel_rfl) (by kernel_rfl) (by kernel_rfl) (fun _ _ _ h => h) ?_ hS ?_
          · intro o ho W hW
            unfold execOp
            rw [ho]
            go_simp
          try simp only [Act.put, List.setIfInBounds_toArray, List.set_cons_zero, List.set_cons_succ]
          refine wpAnyT_takeK (i := 1) (d := 72) (Op.fieldAddr 30 (Operand.tmp 9) 1) (.pointer (some ⟨H, 1, none⟩)) (by kernel_rfl) (by kernel_rfl) (by kernel_rfl) (by kernel_rfl) (by kernel_rfl) (fun _ _ _ h => h) ?_ hS ?_
          · intro o ho W hW
            unfold execOp
            rw [ho]
            go_simp
            (try rfl)
          try simp only [Act.put, List.setIfInBounds_toArray, List.set_cons_zero, List.set_cons_succ]
          refine wpAnyT_takeK (i := 2) (d := 73) (Op.load 3 (Operand.tmp 72)) (.int .i64 f) (by kernel_rfl) (by kernel_rfl) (by kernel_rfl) (by kernel_rfl) (by kernel_rfl) (fun _ _ _ h => h) ?_ hS ?_
          · intro o ho W hW
            have c : W.cell? ⟨H, 1, none⟩ = some (.int .i64 f) := BlkIs.cell hW 1
            unfold execOp
            rw [ho]
            go_simp
            (try rfl)
          try simp only [Act.put, List.setIfInBounds_toArray, List.set_cons_zero, List.set_cons_succ]
          refine wpAnyT_takeK (i := 3) (d := 74) (Op.fieldAddr 30 (Operand.tmp 9) 2) (.pointer (some ⟨H, 2, none⟩)) (by kernel_rfl) (by kernel_rfl) (by kernel_rfl) (by kernel_rfl) (by kernel_rfl) (fun _ _ _ h => h) ?_ hS ?_
          · intro o ho W hW
            unfold execOp
            rw [ho]
            go_simp
            (try rfl)
          try simp only [Act.put, List.setIfInBounds_toArray, List.set_cons_zero, List.set_cons_succ]
          refine wpAnyT_takeK (i := 4) (d := 75) (Op.load 9 (Operand.tmp 74)) (.string (str l)) (by kernel_rfl) (by kernel_rfl) (by kernel_rfl) (by kernel_rfl) (by kernel_rfl) (fun _ _ _ h => h) ?_ hS ?_
          · intro o ho W hW
            have c : W.cell? ⟨H, 2, none⟩ = some (.string (str l)) := BlkIs.cell hW 2
            unfold execOp
            rw [ho]
            go_simp
            (try rfl)
          try simp only [Act.put, List.setIfInBounds_toArray, List.set_cons_zero, List.set_cons_succ]
          refine wpAnyT_takeK (i := 6) (d := 77) (Op.move (Operand.tmp 7)) (.pointer (some ⟨D, 0, none⟩)) (by kernel_rfl) (by kernel_rfl) (by kernel_rfl) (by kernel_rfl) (by kernel_rfl) (fun _ _ _ h => h) ?_ hS ?_
          · intro o ho W hW
            unfold execOp
            rw [ho]
            go_simp
          try simp only [Act.put, List.setIfInBounds_toArray, List.set_cons_zero, List.set_cons_succ]
          refine wpAnyT_takeK (i := 7) (d := 78) (Op.fieldAddr 30 (Operand.tmp 9) 1) (.pointer (some ⟨H, 1, none⟩)) (by kernel_rfl) (by kernel_rfl) (by kernel_rfl) (by kernel_rfl) (by kernel_rfl) (fun _ _ _ h => h) ?_ hS ?_
          · intro o ho W hW
            unfold execOp
            rw [ho]
            go_simp
            (try rfl)
          try simp only [Act.put, List.setIfInBounds_toArray, List.set_cons_zero, List.set_cons_succ]
          refine wpAnyT_takeK (i := 8) (d := 79) (Op.load 3 (Operand.tmp 78)) (.int .i64 f) (by kernel_rfl) (by kernel_rfl) (by kernel_rfl) (by kernel_rfl) (by kernel_rfl) (fun _ _ _ h => h) ?_ hS ?_
          · intro o ho W hW
            have c : W.cell? ⟨H, 1, none⟩ = some (.int .i64 f) := BlkIs.cell hW 1
            unfold execOp
            rw [ho]
            go_simp
            (try rfl)
          try simp only [Act.put, List.setIfInBounds_toArray, List.set_cons_zero, List.set_cons_succ]
          refine wpAnyT_takeK (i := 9) (d := 80) (Op.fieldAddr 30 (Operand.tmp 9) 2) (.pointer (some ⟨H, 2, none⟩)) (by kernel_rfl) (by kernel_rfl) (by kernel_rfl) (by kernel_rfl) (by kernel_rfl) (fun _ _ _ h => h) ?_ hS ?_
          · intro o ho W hW
            unfold execOp
            rw [ho]
            go_simp
            (try rfl)
          try simp only [Act.put, List.setIfInBounds_toArray, List.set_cons_zero, List.set_cons_succ]
          refine wpAnyT_takeK (i := 10) (d := 81) (Op.load 9 (Operand.tmp 80)) (.string (str l)) (by kernel_rfl) (by kernel_rfl) (by kernel_rfl) (by kernel_rfl) (by kernel_rfl) (fun _ _ _ h => h) ?_ hS ?_
          · intro o ho W hW
            have c : W.cell? ⟨H, 2, none⟩ = some (.string (str l)) := BlkIs.cell hW 2
            unfold execOp
            rw [ho]
            go_simp
            (try rfl)
          try simp only [Act.put, List.setIfInBounds_toArray, List.set_cons_zero, List.set_cons_succ]
          refine wpAnyT_ready (rs := [5]) (by kernel_rfl) (by simp) ?_
          refine (AllReadyT.cons (o := { dst := some 76, op := Op.call { callee := Callee.value (Operand.func 20), args := #[Operand.tmp 71, Operand.tmp 73, Operand.tmp 75], argTypes := #[24, 3, 9] }, type := 32, pos := "law.go:83", after := #[{ on := 0, ground := Ground.data }, { on := 2, ground := Ground.data }, { on := 4, ground := Ground.data }], guard := none }) (by kernel_rfl) (fun K hK => ?_) AllReadyT.nil)
          go_simp
          go_at_call 20
          with_reducible refine (HNW.out.like1 f l hl9).mono ?_
          rintro e wk ⟨rfl, hk1⟩
          have HT1 := Lib.hid hk1
          obtain ⟨v2, hn2⟩ := HNW.out.first HT1.out
          have HN2 := Lib.hid hn2
          replace hS := HT1.out.blk hS HHX.out.1 HHX.out.2.2.1
          clear hk1 hn2
          refine hK.out _ _ (fun _ => hS) ?_
          clear hK K
          try simp only [Act.put, List.setIfInBounds_toArray, List.set_cons_zero, List.set_cons_succ]
          refine wpAnyT_ready (rs := [11]) (by kernel_rfl) (by simp) ?_
          refine (AllReadyT.cons (o := { dst := some 82, op := Op.call { callee := Callee.value (Operand.func 19), args := #[Operand.tmp 77, Operand.tmp 79, Operand.tmp 81, Operand.const (Value.bool true)], argTypes := #[26, 3, 9, 4] }, type := 32, pos := "law.go:83", after := #[{ on := 6, ground := Ground.data }, { on := 8, ground := Ground.data }, { on := 10, ground := Ground.data }, { on := 5, ground := Ground.chain }], guard := none }) (by kernel_rfl) (fun K hK => ?_) AllReadyT.nil)
          go_simp
          go_at_call 19
          with_reducible refine (HN2.out.like2 f l hl9).mono ?_
          rintro e wk2 ⟨rfl, hk2⟩
          have HT2 := Lib.hid hk2
          obtain ⟨u2, hn3⟩ := HN2.out.second HT2.out
          have HN3 := Lib.hid hn3
          replace hS := HT2.out.blk hS HHX.out.2.1 HHX.out.2.2.2
          clear hk2 hn3
          refine hK.out _ _ (fun _ => hS) ?_
          clear hK K
          try simp only [Act.put, List.setIfInBounds_toArray, List.set_cons_zero, List.set_cons_succ]
          refine wpAnyT_takeK (i := 12) (d := 83) (Op.binOp BinOp.eql 32 (Operand.tmp 76) (Operand.tmp 82) 32) (.bool true) (by kernel_rfl) (by kernel_rfl) (by kernel_rfl) (by kernel_rfl) (by kernel_rfl) (fun _ _ _ h => h) ?_ hS ?_
          · intro o ho W hW
            unfold execOp
            rw [ho]
            go_simp
            (try rfl)
          try simp only [Act.put, List.setIfInBounds_toArray, List.set_cons_zero, List.set_cons_succ]
          refine wpAnyT_takeK (i := 13) (d := 10) (Op.assign (Operand.tmp 83)) (.bool true) (by kernel_rfl) (by kernel_rfl) (by kernel_rfl) (by kernel_rfl) (by kernel_rfl) (fun _ _ _ h => h) ?_ hS ?_
          · intro o ho W hW
            unfold execOp
            rw [ho]
            go_simp
          try simp only [Act.put, List.setIfInBounds_toArray, List.set_cons_zero, List.set_cons_succ]
          refine wpAnyT_done (by kernel_rfl) ?_ _
          go_wp2
          go_meet
          exact ⟨rfl, s.likeS f l, os, v2, u2, Lib.hid (hok.out.likeS f l), Lib.hid (by have := hol.out; omega), hsh, HN3⟩
        have n1 : decide (kd = 1) = false := decide_eq_false hk1
        have m1 : (kd == 1) = false := by rw [beq_eq_false_iff_ne]; exact hk1
        clear hk1
        by_cases hk2 : kd = 2
        · subst hk2
          go_wp2_with (first
            | (go_at_call 22; (with_reducible refine (HNO.out.opts1 hok.out hlen).mono ?_); rintro e w3 ⟨x, rfl, hx, hn3, hxu⟩; have HX := Lib.hid hx; have HN3 := Lib.hid hn3; have HXU := Lib.hid hxu; clear hx hn3 hxu)
            | (go_at_call 23; (with_reducible refine (HN3.out.opts2 hok.out hlen).mono ?_); rintro e w4 ⟨y, rfl, hy, hn4, hk4⟩; have HXA : Hid (OptsAt w4 x (os ++ s.asks)) := Lib.hid ((HX.out.kept hk4 (fun g hg hm => by
                rcases List.mem_cons.1 hm with e | e
                · exact HX.out.blk HN3.out.n2 (by decide) (e ▸ hg)
                · exact HXU.out g hg (mem_ownB.1 e))).optsAt (by have := asks_len s; have := hlen; rw [List.length_append]; omega) (asks_short hok.out os hsh.out)); have HYA : Hid (OptsAt w4 y (os ++ s.asks)) := Lib.hid (hy.optsAt (by have := asks_len s; have := hlen; rw [List.length_append]; omega) (asks_short hok.out os hsh.out)); have HN4 := Lib.hid hn4; clear hy hn4 hk4)
            | (go_at_call 21; (with_reducible refine (opts_same w4 x y (os ++ s.asks) HXA.out HYA.out).mono ?_); rintro e w6 ⟨rfl, n6, rfl⟩))
          go_meet
          exact ⟨rfl, s, [], .slice none 0 0, .slice none 0 0, hok, Lib.hid (by simp), Lib.hid (fun o h => by cases h), Lib.hid (HN4.out.kept ((Kept.refl [] w4).drewN _))⟩
        have n2 : decide (kd = 2) = false := decide_eq_false hk2
        have m2 : (kd == 2) = false := by rw [beq_eq_false_iff_ne]; exact hk2
        clear hk2
        obtain ⟨kl, hkl⟩ : ∃ kl, los.length = kl := ⟨_, rfl⟩
        have hkl8 : kl ≤ 8 := by have := HLO.out; omega
        have hmin : min (na : Int) 8 = (kl : Int) := by have := HLO.out; omega
        have hkna : kl ≤ na := by have := HLO.out; omega
        have hkca : kl ≤ ca := by omega
        have HAT2 : Hid (OptsAt w (.slice pa kl ca) los) := Lib.hid (by rw [← hkl]; exact HAT.out)
        have hll : os.length + los.length ≤ 1000000 := by have := hol.out; omega
        obtain ⟨R, hR⟩ : ∃ R, s.take os los = R := ⟨_, rfl⟩
        have HT1 : Hid (∀ W, Nr s os v s os u C D w W → Calls Tryz.prog 24 #[.pointer (some ⟨C, 0, none⟩), .slice pa kl ca] W fun e w' => e = .returned (.bool R.ok) ∧ NgTo R.s R.due C v W w') := Lib.hid (fun W a => by rw [← hR]; exact a.take1 _ los hok.out hll HAT2.out)
        have HT2 : Hid (∀ (s3 : NgS) (o3 : List M.Opt) (v3 : Value) W, Nr s3 o3 v3 s os u C D w W → Calls Tryz.prog 25 #[.pointer (some ⟨D, 0, none⟩), .slice pa kl ca] W fun e w' => e = .returned (.bool R.ok) ∧ RnTo R.s R.due D u W w') := Lib.hid (fun s3 o3 v3 W a => by rw [← hR]; exact a.take2 _ los hok.out hll HAT2.out)
        have HRO : Hid (R.s.Ok ∧ R.due.length ≤ 8 * (i + 1) ∧ shortO R.due) := Lib.hid (by
          have h1 := NgS.Ok.takeTo hok.out os los los.length
          have h2 := takeTo_short hok.out os los hsh.out los.length
          have e : s.takeTo os los los.length = R := hR
          rw [e] at h1 h2
          exact ⟨h1.1, by have := h1.2; have := hol.out; omega, h2⟩)
        clear hR hkl hll
        cases hro : R.ok
        all_goals
          rw [hro] at HT1 HT2
          go_wp2_with (first
            | (go_at_call 24; (with_reducible refine (HT1.out _ HNO.out).mono ?_); rintro e w3 ⟨rfl, h3⟩; obtain ⟨v3, hn3⟩ := HNO.out.first h3; have HN3 := Lib.hid hn3; clear h3 hn3)
            | (go_at_call 25; (with_reducible refine (HT2.out _ _ _ _ HN3.out).mono ?_); rintro e w4 ⟨rfl, h4⟩; obtain ⟨u4, hn4⟩ := HN3.out.second h4; have HN4 := Lib.hid hn4; clear h4 hn4))
          go_meet
          exact ⟨rfl, R.s, R.due, v3, u4, Lib.hid HRO.out.1, Lib.hid HRO.out.2.1, Lib.hid HRO.out.2.2, HN4⟩
      case rest =>
        obtain ⟨rfl, s2, os2, v2, u2, hok2, hol2, hsh2, hnr2⟩ := hcut
        clear HBO HNO t0 t3 hok hol hsh HHX HHB HAT HLO
        have HD1 : Hid (∀ W, Nr s2 os2 v2 s2 os2 u2 C D w W → Calls Tryz.prog 26 #[.pointer (some ⟨C, 0, none⟩)] W fun e w' => e = .returned (.bool s2.done) ∧ Below W.heap.size W w') := Lib.hid (fun W a => ngDone_any s2 v2 C W a.n1)
        have HD2 : Hid (∀ W, Nr s2 os2 v2 s2 os2 u2 C D w W → Calls Tryz.prog 27 #[.pointer (some ⟨D, 0, none⟩)] W fun e w' => e = .returned (.bool s2.done) ∧ Below W.heap.size W w') := Lib.hid (fun W a => rnDone_any s2 u2 D W a.n2)
        have HMI : Hid (∀ (F : Nat) (xm : ByteArray), str (if ftKnown (F : Int) = true then s2.mine (F : Int) else []) = xm → ∀ W, Nr s2 os2 v2 s2 os2 u2 C D w W → Calls Tryz.prog 28 #[.pointer (some ⟨C, 0, none⟩), .int .i64 (F : Int)] W fun e w' => e = .returned (.string xm) ∧ ∃ n, w' = W.drewN n) := Lib.hid (fun F xm h W a => by rw [← h]; exact ngMine_any s2 v2 (F : Int) C W a.n1)
        have HTH : Hid (∀ (F : Nat) (xt : ByteArray), str (if ftKnown (F : Int) = true then s2.theirs (F : Int) else []) = xt → ∀ W, Nr s2 os2 v2 s2 os2 u2 C D w W → Calls Tryz.prog 29 #[.pointer (some ⟨C, 0, none⟩), .int .i64 (F : Int)] W fun e w' => e = .returned (.string xt) ∧ ∃ n, w' = W.drewN n) := Lib.hid (fun F xt h W a => by rw [← h]; exact ngTheirs_any s2 v2 (F : Int) C W a.n1)
        obtain ⟨bd, hbd⟩ : ∃ x, s2.done = x := ⟨_, rfl⟩
        rw [hbd] at HD1 HD2
        clear hbd
        have hcutB : Hid (Nr s2 os2 v2 s2 os2 u2 C D w wc) := hnr2
        have HSTEP : Hid (i + 1 ≤ min n 40 ∧ min n 40 - (i + 1) < min n 40 - i) := Lib.hid (by omega)
        cases bd
        all_goals
          go_upto_region 22 with (first
            | (go_at_call 26; (with_reducible refine (HD1.out _ hnr2.out).mono ?_); rintro e w6 ⟨rfl, hb6⟩; have HN6 := Lib.hid (hnr2.out.kept (Kept.of_below [] hb6)); clear hb6)
            | (go_at_call 27; (with_reducible refine (HD2.out _ HN6.out).mono ?_); rintro e w7 ⟨rfl, hb7⟩; have HN7 := Lib.hid (HN6.out.kept (Kept.of_below [] hb7)); clear hb7))
          go_wp2
          go_loopw [12] (fun fv wx => ∃ F : Nat, fv = .int .i64 (F : Int) ∧ F ≤ 9 ∧ Hid (Nr s2 os2 v2 s2 os2 u2 C D w wx)) (fun fv _ => 9 - (intOf fv).toNat)
          case atStart => exact ⟨0, rfl, by decide, HN7⟩
          case round =>
            clear HN6 HN7 hnr2 hcutB
            obtain ⟨F, rfl, hF, hnr2⟩ := hrel
            by_cases hF9 : F < 9
            · have d9 : decide ((F : Int) < 9) = true := decide_eq_true (by omega)
              have F00 : (0 : Int) ≤ (F : Int) := by omega
              have F09 : (F : Int) < 9 := by omega
              obtain ⟨xm, hxm⟩ : ∃ x, str (if ftKnown (F : Int) = true then s2.mine (F : Int) else []) = x := ⟨_, rfl⟩
              obtain ⟨xt, hxt⟩ : ∃ x, str (if ftKnown (F : Int) = true then s2.theirs (F : Int) else []) = x := ⟨_, rfl⟩
              have HXM := Lib.hid hxm
              have HXT := Lib.hid hxt
              have HMI := Lib.hid (HMI.out F xm hxm)
              have HTH := Lib.hid (HTH.out F xt hxt)
              clear hxm hxt
              go_upto_region 25 with fail
              refine wp_region_T (fun W => Nr s2 os2 v2 s2 os2 u2 C D w W) 22 (by kernel_rfl) ?_
              have hS := (show Nr s2 os2 v2 s2 os2 u2 C D w wr.drew from hnr2.out.kept ((Kept.refl [] wr).drewN 1))
              generalize wr.drew = Wd at hS ⊢
              refine wpAnyT_takeK (i := 0) (d := 104) (Op.move (Operand.tmp 6)) (.pointer (some ⟨C, 0, none⟩)) (by kernel_rfl) (by kernel_rfl) (by kernel_rfl) (by kernel_rfl) (by kernel_rfl) (fun _ _ _ h => h) ?_ hS ?_
              · intro o ho W hW
                unfold execOp
                rw [ho]
                go_simp
              try simp only [Act.put, List.setIfInBounds_toArray, List.set_cons_zero, List.set_cons_succ]
              refine wpAnyT_takeK (i := 1) (d := 105) (Op.move (Operand.tmp 12)) (.int .i64 F) (by kernel_rfl) (by kernel_rfl) (by kernel_rfl) (by kernel_rfl) (by kernel_rfl) (fun _ _ _ h => h) ?_ hS ?_
              · intro o ho W hW
                unfold execOp
                rw [ho]
                go_simp
              try simp only [Act.put, List.setIfInBounds_toArray, List.set_cons_zero, List.set_cons_succ]
              refine wpAnyT_takeK (i := 3) (d := 107) (Op.move (Operand.tmp 7)) (.pointer (some ⟨D, 0, none⟩)) (by kernel_rfl) (by kernel_rfl) (by kernel_rfl) (by kernel_rfl) (by kernel_rfl) (fun _ _ _ h => h) ?_ hS ?_
              · intro o ho W hW
                unfold execOp
                rw [ho]
                go_simp
              try simp only [Act.put, List.setIfInBounds_toArray, List.set_cons_zero, List.set_cons_succ]
              refine wpAnyT_takeK (i := 4) (d := 108) (Op.move (Operand.tmp 12)) (.int .i64 F) (by kernel_rfl) (by kernel_rfl) (by kernel_rfl) (by kernel_rfl) (by kernel_rfl) (fun _ _ _ h => h) ?_ hS ?_
              · intro o ho W hW
                unfold execOp
                rw [ho]
                go_simp
              try simp only [Act.put, List.setIfInBounds_toArray, List.set_cons_zero, List.set_cons_succ]
              refine wpAnyT_takeK (i := 5) (d := 109) (Op.nilCheck (Operand.tmp 107)) (.pointer (some ⟨D, 0, none⟩)) (by kernel_rfl) (by kernel_rfl) (by kernel_rfl) (by kernel_rfl) (by kernel_rfl) (fun _ _ _ h => h) ?_ hS ?_
              · intro o ho W hW
                unfold execOp
                rw [ho]
                go_simp
                (try rfl)
              try simp only [Act.put, List.setIfInBounds_toArray, List.set_cons_zero, List.set_cons_succ]
              refine wpAnyT_takeK (i := 6) (d := 110) (Op.fieldAddr 41 (Operand.tmp 109) 3) (.pointer (some ⟨D, 19, none⟩)) (by kernel_rfl) (by kernel_rfl) (by kernel_rfl) (by kernel_rfl) (by kernel_rfl) (fun _ _ _ h => h) ?_ hS ?_
              · intro o ho W hW
                unfold execOp
                rw [ho]
                go_simp
                (try rfl)
              try simp only [Act.put, List.setIfInBounds_toArray, List.set_cons_zero, List.set_cons_succ]
              refine wpAnyT_takeK (i := 7) (d := 111) (Op.indexAddr 39 (Operand.tmp 110) (Operand.tmp 108)) (.pointer (some ⟨D, 19 + F, none⟩)) (by kernel_rfl) (by kernel_rfl) (by kernel_rfl) (by kernel_rfl) (by kernel_rfl) (fun _ _ _ h => h) ?_ hS ?_
              · intro o ho W hW
                unfold execOp
                rw [ho]
                go_simp
                (try rfl)
              try simp only [Act.put, List.setIfInBounds_toArray, List.set_cons_zero, List.set_cons_succ]
              refine wpAnyT_takeK (i := 8) (d := 112) (Op.load 9 (Operand.tmp 111)) (.string xm) (by kernel_rfl) (by kernel_rfl) (by kernel_rfl) (by kernel_rfl) (by kernel_rfl) (fun _ _ _ h => h) ?_ hS ?_
              · intro o ho W hW
                have c : W.cell? ⟨D, 19 + F, none⟩ = some (.string xm) := by rw [← HXM.out]; exact rn_mine hW.n2 F hF9
                unfold execOp
                rw [ho]
                go_simp
                (try rfl)
              try simp only [Act.put, List.setIfInBounds_toArray, List.set_cons_zero, List.set_cons_succ]
              refine wpAnyT_ready (rs := [2]) (by kernel_rfl) (by simp) ?_
              refine (AllReadyT.cons (o := { dst := some 106, op := Op.call { callee := Callee.value (Operand.func 28), args := #[Operand.tmp 104, Operand.tmp 105], argTypes := #[24, 3] }, type := 9, pos := "law.go:94", after := #[{ on := 0, ground := Ground.data }, { on := 1, ground := Ground.data }], guard := none }) (by kernel_rfl) (fun K hK => ?_) AllReadyT.nil)
              go_simp
              go_at_call 28
              with_reducible refine (HMI.out _ hS).mono ?_
              rintro e wk ⟨rfl, n9, rfl⟩
              replace hS := hS.kept ((Kept.refl [] _).drewN n9)
              refine hK.out _ _ (fun _ => hS) ?_
              clear hK K
              try simp only [Act.put, List.setIfInBounds_toArray, List.set_cons_zero, List.set_cons_succ]
              refine wpAnyT_takeK (i := 9) (d := 113) (Op.binOp BinOp.neq 9 (Operand.tmp 106) (Operand.tmp 112) 9) (.bool false) (by kernel_rfl) (by kernel_rfl) (by kernel_rfl) (by kernel_rfl) (by kernel_rfl) (fun _ _ _ h => h) ?_ hS ?_
              · intro o ho W hW
                unfold execOp
                rw [ho]
                go_simp
                (try rfl)
              try simp only [Act.put, List.setIfInBounds_toArray, List.set_cons_zero, List.set_cons_succ]
              refine wpAnyT_takeK (i := 10) (d := 114) (Op.move (Operand.tmp 113)) (.bool false) (by kernel_rfl) (by kernel_rfl) (by kernel_rfl) (by kernel_rfl) (by kernel_rfl) (fun _ _ _ h => h) ?_ hS ?_
              · intro o ho W hW
                unfold execOp
                rw [ho]
                go_simp
              try simp only [Act.put, List.setIfInBounds_toArray, List.set_cons_zero, List.set_cons_succ]
              refine wpAnyT_takeK (i := 11) (d := 115) (Op.move (Operand.tmp 6)) (.pointer (some ⟨C, 0, none⟩)) (by kernel_rfl) (by kernel_rfl) (by kernel_rfl) (by kernel_rfl) (by kernel_rfl) (fun _ _ _ h => h) ?_ hS ?_
              · intro o ho W hW
                unfold execOp
                rw [ho]
                go_simp
              try simp only [Act.put, List.setIfInBounds_toArray, List.set_cons_zero, List.set_cons_succ]
              refine wpAnyT_takeK (i := 12) (d := 116) (Op.move (Operand.tmp 12)) (.int .i64 F) (by kernel_rfl) (by kernel_rfl) (by kernel_rfl) (by kernel_rfl) (by kernel_rfl) (fun _ _ _ h => h) ?_ hS ?_
              · intro o ho W hW
                unfold execOp
                rw [ho]
                go_simp
              try simp only [Act.put, List.setIfInBounds_toArray, List.set_cons_zero, List.set_cons_succ]
              refine wpAnyT_takeK (i := 14) (d := 118) (Op.move (Operand.tmp 7)) (.pointer (some ⟨D, 0, none⟩)) (by kernel_rfl) (by kernel_rfl) (by kernel_rfl) (by kernel_rfl) (by kernel_rfl) (fun _ _ _ h => h) ?_ hS ?_
              · intro o ho W hW
                unfold execOp
                rw [ho]
                go_simp
              try simp only [Act.put, List.setIfInBounds_toArray, List.set_cons_zero, List.set_cons_succ]
              refine wpAnyT_takeK (i := 15) (d := 119) (Op.move (Operand.tmp 12)) (.int .i64 F) (by kernel_rfl) (by kernel_rfl) (by kernel_rfl) (by kernel_rfl) (by kernel_rfl) (fun _ _ _ h => h) ?_ hS ?_
              · intro o ho W hW
                unfold execOp
                rw [ho]
                go_simp
              try simp only [Act.put, List.setIfInBounds_toArray, List.set_cons_zero, List.set_cons_succ]
              refine wpAnyT_takeK (i := 16) (d := 120) (Op.nilCheck (Operand.tmp 118)) (.pointer (some ⟨D, 0, none⟩)) (by kernel_rfl) (by kernel_rfl) (by kernel_rfl) (by kernel_rfl) (by kernel_rfl) (fun _ _ _ h => h) ?_ hS ?_
              · intro o ho W hW
                unfold execOp
                rw [ho]
                go_simp
                (try rfl)
              try simp only [Act.put, List.setIfInBounds_toArray, List.set_cons_zero, List.set_cons_succ]
              refine wpAnyT_takeK (i := 17) (d := 121) (Op.fieldAddr 41 (Operand.tmp 120) 4) (.pointer (some ⟨D, 28, none⟩)) (by kernel_rfl) (by kernel_rfl) (by kernel_rfl) (by kernel_rfl) (by kernel_rfl) (fun _ _ _ h => h) ?_ hS ?_
              · intro o ho W hW
                unfold execOp
                rw [ho]
                go_simp
                (try rfl)
              try simp only [Act.put, List.setIfInBounds_toArray, List.set_cons_zero, List.set_cons_succ]
              refine wpAnyT_takeK (i := 18) (d := 122) (Op.indexAddr 39 (Operand.tmp 121) (Operand.tmp 119)) (.pointer (some ⟨D, 28 + F, none⟩)) (by kernel_rfl) (by kernel_rfl) (by kernel_rfl) (by kernel_rfl) (by kernel_rfl) (fun _ _ _ h => h) ?_ hS ?_
              · intro o ho W hW
                unfold execOp
                rw [ho]
                go_simp
                (try rfl)
              try simp only [Act.put, List.setIfInBounds_toArray, List.set_cons_zero, List.set_cons_succ]
              refine wpAnyT_takeK (i := 19) (d := 123) (Op.load 9 (Operand.tmp 122)) (.string xt) (by kernel_rfl) (by kernel_rfl) (by kernel_rfl) (by kernel_rfl) (by kernel_rfl) (fun _ _ _ h => h) ?_ hS ?_
              · intro o ho W hW
                have c : W.cell? ⟨D, 28 + F, none⟩ = some (.string xt) := by rw [← HXT.out]; exact rn_their hW.n2 F hF9
                unfold execOp
                rw [ho]
                go_simp
                (try rfl)
              try simp only [Act.put, List.setIfInBounds_toArray, List.set_cons_zero, List.set_cons_succ]
              refine wpAnyT_ready (rs := [13]) (by kernel_rfl) (by simp) ?_
              refine (AllReadyT.cons (o := { dst := some 117, op := Op.call { callee := Callee.value (Operand.func 29), args := #[Operand.tmp 115, Operand.tmp 116], argTypes := #[24, 3] }, type := 9, pos := "law.go:94", after := #[{ on := 11, ground := Ground.data }, { on := 12, ground := Ground.data }, { on := 10, ground := Ground.chain }, { on := 10, ground := Ground.guard }], guard := some (10, false) }) (by kernel_rfl) (fun K hK => ?_) AllReadyT.nil)
              go_simp
              go_at_call 29
              with_reducible refine (HTH.out _ hS).mono ?_
              rintro e wk ⟨rfl, n8, rfl⟩
              replace hS := hS.kept ((Kept.refl [] _).drewN n8)
              refine hK.out _ _ (fun _ => hS) ?_
              clear hK K
              try simp only [Act.put, List.setIfInBounds_toArray, List.set_cons_zero, List.set_cons_succ]
              refine wpAnyT_takeK (i := 20) (d := 124) (Op.binOp BinOp.neq 9 (Operand.tmp 117) (Operand.tmp 123) 9) (.bool false) (by kernel_rfl) (by kernel_rfl) (by kernel_rfl) (by kernel_rfl) (by kernel_rfl) (fun _ _ _ h => h) ?_ hS ?_
              · intro o ho W hW
                unfold execOp
                rw [ho]
                go_simp
                (try rfl)
              try simp only [Act.put, List.setIfInBounds_toArray, List.set_cons_zero, List.set_cons_succ]
              refine wpAnyT_takeK (i := 21) (d := 125) (Op.pick (Operand.tmp 114) (Operand.const (Value.bool true)) (Operand.tmp 124)) (.bool false) (by kernel_rfl) (by kernel_rfl) (by kernel_rfl) (by kernel_rfl) (by kernel_rfl) (fun _ _ _ h => h) ?_ hS ?_
              · intro o ho W hW
                unfold execOp
                rw [ho]
                go_simp
                (try rfl)
              try simp only [Act.put, List.setIfInBounds_toArray, List.set_cons_zero, List.set_cons_succ]
              refine wpAnyT_done (by kernel_rfl) ?_ _
              go_wp2
              refine ⟨⟨F + 1, by go_num, by omega, Lib.hid (by rw [← World.drewN_drewN]; exact hS)⟩, ?_⟩
              simp [intOf]; omega
            · obtain rfl : F = 9 := by omega
              go_wp2
              refine ⟨⟨i + 1, s2, os2, v2, u2, by go_num, HSTEP.out.1, hok2, hol2, hsh2, hnr2⟩, ?_⟩
              simp [intOf]; omega
    · have hlen : os.length ≤ 1000000 := by have := hol.out; omega
      by_cases hin : i < n
      · obtain rfl : i = 40 := by omega
        have d3 : decide (((40 : Nat) : Int) < (n : Int)) = true := decide_eq_true (by omega)
        have d3b : decide ((40 : Int) < (n : Int)) = true := decide_eq_true (by omega)
        clear hi hil hin
        go_wp2_with (first
          | (go_at_call 22; (with_reducible refine (hnr.out.opts1 hok.out hlen).mono ?_); rintro e w3 ⟨x, rfl, hx, hn3, hxu⟩; have HX := Lib.hid hx; have HN3 := Lib.hid hn3; have HXU := Lib.hid hxu; clear hx hn3 hxu)
          | (go_at_call 23; (with_reducible refine (HN3.out.opts2 hok.out hlen).mono ?_); rintro e w4 ⟨y, rfl, hy, hn4, hk4⟩; have HXA : Hid (OptsAt w4 x (os ++ s.asks)) := Lib.hid ((HX.out.kept hk4 (fun g hg hm => by
              rcases List.mem_cons.1 hm with e | e
              · exact HX.out.blk HN3.out.n2 (by decide) (e ▸ hg)
              · exact HXU.out g hg (mem_ownB.1 e))).optsAt (by have := asks_len s; have := hlen; rw [List.length_append]; omega) (asks_short hok.out os hsh.out)); have HYA : Hid (OptsAt w4 y (os ++ s.asks)) := Lib.hid (hy.optsAt (by have := asks_len s; have := hlen; rw [List.length_append]; omega) (asks_short hok.out os hsh.out)); have HN4 := Lib.hid hn4; clear hy hn4 hk4)
          | (go_at_call 21; (with_reducible refine (opts_same w4 x y (os ++ s.asks) HXA.out HYA.out).mono ?_); rintro e w6 ⟨rfl, n6, rfl⟩))
        go_ret
        exact ⟨rfl, (HN4.out.kept ((Kept.refl [] w4).drewN _)).bel⟩
      · have d3 : decide ((i : Int) < (n : Int)) = false := decide_eq_false (by omega)
        clear hi hil
        go_wp2_with (first
          | (go_at_call 22; (with_reducible refine (hnr.out.opts1 hok.out hlen).mono ?_); rintro e w3 ⟨x, rfl, hx, hn3, hxu⟩; have HX := Lib.hid hx; have HN3 := Lib.hid hn3; have HXU := Lib.hid hxu; clear hx hn3 hxu)
          | (go_at_call 23; (with_reducible refine (HN3.out.opts2 hok.out hlen).mono ?_); rintro e w4 ⟨y, rfl, hy, hn4, hk4⟩; have HXA : Hid (OptsAt w4 x (os ++ s.asks)) := Lib.hid ((HX.out.kept hk4 (fun g hg hm => by
              rcases List.mem_cons.1 hm with e | e
              · exact HX.out.blk HN3.out.n2 (by decide) (e ▸ hg)
              · exact HXU.out g hg (mem_ownB.1 e))).optsAt (by have := asks_len s; have := hlen; rw [List.length_append]; omega) (asks_short hok.out os hsh.out)); have HYA : Hid (OptsAt w4 y (os ++ s.asks)) := Lib.hid (hy.optsAt (by have := asks_len s; have := hlen; rw [List.length_append]; omega) (asks_short hok.out os hsh.out)); have HN4 := Lib.hid hn4; clear hy hn4 hk4)
          | (go_at_call 21; (with_reducible refine (opts_same w4 x y (os ++ s.asks) HXA.out HYA.out).mono ?_); rintro e w6 ⟨rfl, n6, rfl⟩))
        go_ret
        exact ⟨rfl, (HN4.out.kept ((Kept.refl [] w4).drewN _)).bel⟩
end Go.Proofs.YtnhlachoimlhhaaGreatDoor
